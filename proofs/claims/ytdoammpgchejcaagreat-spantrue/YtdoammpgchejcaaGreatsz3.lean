import Derived.Deep.LoopGhost
import Derived.Deep.RegionHeld3
import Derived.Deep.CutRange
import Derived.Deep.DeepCutAuto
import Derived.Laws.MakeOwn
import Derived.ChangeKeysEq
import Derived.Deep.AppendSrc
import Derived.Lib.AppendZeros
import Derived.LoopN
import Derived.Deep.RegionWith
import Derived.WalkKit
import Derived.Sort.Row
import Derived.Deep.Draws
import Derived.Below
import Derived.Deep.OwnRows
import Derived.Test.YtdoammpgchejcaaGreatRows
import Derived.Deep.QuietTactic
import Derived.StillTailTactics
import Derived.BigRegion
import Derived.BigQuiet
import Derived.WalkSpells
import Derived.WalkLawsBesides
import Derived.KernelRfl
import Derived.Lib.LazyBuf
import Derived.Lib.SliceRun
import Derived.Lib.ConvBytes
import Derived.Test.YtdoammpgchejcaaGreatsz2
set_option linter.unusedVariables false
set_option linter.constructorNameAsVariable false
set_option linter.unusedSimpArgs false
set_option maxRecDepth 1000000
set_option maxHeartbeats 4000000
namespace Go.Proofs.YtdoammpgchejcaaGreat
open EC RG
open _root_.Array renaming append_assoc->yAG,getElem?_append_left->XW,getElem?_append_right->YC,getElem?_eq_getElem->UZ,getElem?_map->yAE,getElem?_toList->Vo,getElem_append_left->Z1,getElem_append_right->ZW,getElem_replicate->Wv,getElem_toList->XD,length_toList->UJ,map->yB3,map_replicate->yAv,replicate->UI,size->V2,size_append->VM,size_extract->Xw,size_replicate->UO,size_setIfInBounds->VE,toArray_toList->XC
open _root_.BitVec renaming eq_of_toNat_eq->yAi,ofInt->Xa,ofInt_natCast->Zc,ofNat->Yl,toNat_ofNat->YE
open _root_.Bool renaming and_eq_true->UK
open _root_.Classical renaming byContradiction->Ws
open _root_.Fin renaming ofNat->Xg
open _root_.Go renaming Addr->Wt,Calls->UG,TypeId->U7,Value->Us,World->Uq,bodyPost_ret->UD,run_make_row'->yBE,sizeOf->yAa,size_madeCells->YI,undef->WO,wp_block->XG,wp_cond_false->VH,wp_cond_true->VD,wp_loop_ghost->Ze,wp_ret->We,wp_seq->Uy,wp_skip->WR
open _root_.Go.Addr renaming add->Zi,add_mid->yBH
open _root_.Go.Builtin renaming append_->Vr,copy_->XY
open _root_.Go.Exit renaming inBlock->Yu
open _root_.Go.Instr renaming indexAt->Vk,makeSlice->XB
open _root_.Go.IntKind renaming bits->yBi,i64->VR,signed->yAR,u64->Vn,u8->Xx,wrap->yBh,wrap_u64->XT
open _root_.Go.IntWalk renaming i64_in->Wr
open _root_.Go.Lib renaming bytesCells->Zj,bytesWorld->Z5,bytesWorld_size->yAJ,wpList_append_run->WH
open _root_.Go.Op renaming eqItems->yA7
open _root_.Go.Result renaming andThen_ok->Vl
open _root_.Go.RowKit.Below renaming heap_setCell->Zr,refl->UQ
open _root_.Go.Value renaming int->VY
open _root_.Go.World renaming alloc->Xs,block_lt_of_cell?->Xn,cell?->VX,cell?_alloc_new->Vb,cell?_of_block->UV,cell?_setCell_other->UT,cell?_setCell_same->VU,cell?_setCells_out->Z4,freeze->yAg,frozen?_alloc_new->Wu,frozen?_of_block->VT,frozen?_setCell->VK,frozen?_setCells->yAf,setCell->Yb,size_alloc->UA
open _root_.Int renaming emod_eq_of_lt->yA5,natCast_ediv->Zb,natCast_mul->Xv,natCast_pow->Z9,neg_neg->yBY,toNat_natCast->XZ
open _root_.List renaming cons->yB6,forall_mem_cons->yAq,getElem?_eq_some_iff->UE,getElem?_map->Vy,getElem?_toArray->Vf,getElem_map->Xc,length_cons->Vh,length_map->UP,length_replicate->Xe,mem_cons_of_mem->Va,mem_cons_self->Vt,mem_map->Vm,mem_range->VZ,not_mem_nil->UX,range->VF,replicate->VA,size_toArray->VB,take_of_length_le->Y9
open _root_.Nat renaming add_assoc->WQ,add_sub_cancel_left->WJ,add_zero->XA,le_add_right->Y8,le_refl->Uv,le_trans->UB,lt_of_lt_of_le->Uw,lt_succ_self->YG,min->XO,min_le_left->Z7,min_le_right->ZX,mod_eq_of_lt->UR,mod_lt->V4,mul_comm->Vu,mul_le_mul->WP,mul_le_mul_left->Yh,mul_one->XQ,mul_succ->Yi,ne_of_gt->V7,pos_of_neZero->Yy,sub_self->YU,sub_sub->Yk,zero_add->UC,zero_le->Wx
open _root_.Option renaming isSome_iff_exists->Vq,map_eq_some_iff->Ux,map_some->Yv
open _root_.Or renaming inl->U3,inr->UW
open _root_.Prod renaming mk->V5
open _root_.UInt8 renaming ofNat->UL,toNat_ofNat'->YH
open Go.Proofs.Tryz
open Go.RowKit Go.Sort Go.Deep
section
variable {P:Nat}[NeZero P]{N:Nat}
theorem Ll(F:Fld P)(b o k:Nat)(p:k<8)(s:T3 P)(w:Uq)(u:b<w.heap.size)(x:w.rangeAt b (o+0+12*k) (tw s)):UG prog 110 #[(oZ b o),(.int .i8 (-(2*(k:Int)+1)))] w (rZ w λe w'=>e=tv (opJ s)):=by
 obtain⟨s2,c⟩:∃s2,opJ s=s2:=⟨_,rfl⟩
 have i:=c ▸ Ri F s;have d:∀w,(binOp .lss 187 (.int .i8 (-(2*(k:Int)+1))) (.int .i8 0)).run prog w=.ok (.bool true) w:=λw=>by
  go_simp;try omega
 have f:∀w,(Op.unary .neg (.int .i8 (-(2*(k:Int)+1)))).run prog w=.ok (.int .i8 (2*(k:Int)+1)) w:=λw=>by
  rw[NM _ oM,yBY]
 go_enter func110,ntmps110;refine Ot (v0:=(oZ b o)) (v1:=(.int .i8 (-(2*(k:Int)+1)))) (n:=23) kR kR kR kR ?_;intro a0 l y r;have j:=RG.St.begin w;have t:RG.M w w.heap.size [] 23 [] [] [(0,.v (oZ b o)),(1,.v (.int .i8 (-(2*(k:Int)+1))))] a0 _:=⟨j,l,⟨y,r,yCl⟩⟩
 repeat refine Uy ?_
 refine t.T [.m 0] [(0,RG.z 12)] [] [RG.z 12] [0,1,4] ⟨mk 0 185,yCl⟩ ?_;intro z D A q;repeat refine Uy ?_
 refine q.U [.x (.int .i8 (-(2*(k:Int)+1))),.x (.bool true)] [0,1,4,6] ⟨st,aP rfl .lss 187 187 5 (.int .i8 (-(2*(k:Int)+1))) (.int .i8 0) (.bool true) rfl rfl sx (λw=>kR) d,yCl⟩ ?_;intro a2 C m;repeat refine Uy ?_
 refine VD m.ev ?_;repeat refine Uy ?_
 refine m.T [.x (oZ b o),.x (.int .i8 (-(2*(k:Int)+1))),.x (.int .i8 (2*(k:Int)+1)),.x (.int .i8 k),.x (oZ b o),.x (.pointer (some ⟨b,o+0,none⟩)),.x (.pointer (some ⟨b,(o+0)+12*k,none⟩)),.x (tv s),.c (tv s2),.u 0] [] [(0,9,tw s2)] [tw s2] [4] ⟨st,st,MY rfl .neg 187 8 (.int .i8 (-(2*(k:Int)+1))) (.int .i8 (2*(k:Int)+1)) rfl rfl sx f,aP rfl .quo 187 187 9 (.int .i8 (2*(k:Int)+1)) (.int .i8 2) (.int .i8 k) rfl rfl sx (λw=>kR) (NL k p),st,st,bD rfl 186 12 10 rfl (.v (.pointer (some ⟨b,o+0,none⟩))) (.int .i8 k) sx sx (λμ w=>J7 _ _ k p w),eH rfl b ((o+0)+12*k) u UX 185 13 rfl (tw s) rfl sx x iF i117,cl i,RG.pt i117,yCl⟩ ?_;intro a B g;refine We ?_;refine UD (v:=tv s2) (aI g.st 4 185 rfl 0 _ rfl (g.at (s:=(.p 0 0))) iF i117) g.sl.defers ?_;exact⟨_,rfl,g.st.bel.below,by rw[c]⟩
theorem Lj(F:Fld P)(b o k:Nat)(j:k<8)(s:T3 P)(w:Uq)(t:b<w.heap.size)(u:w.rangeAt b (o+0+12*k) (tw s)):UG prog 110 #[(oZ b o),(.int .i8 (2*(k:Int)+1))] w (rZ w λe w'=>e=tv s):=by
 obtain⟨s2,m⟩:∃s2,opJ s=s2:=⟨_,rfl⟩
 have c:∀w,(binOp .lss 187 (.int .i8 (2*(k:Int)+1)) (.int .i8 0)).run prog w=.ok (.bool false) w:=λw=>by
  go_simp;try omega
 have l:∀w,(Op.unary .neg (.int .i8 (-(2*(k:Int)+1)))).run prog w=.ok (.int .i8 (2*(k:Int)+1)) w:=λw=>by
  rw[NM _ oM,yBY]
 go_enter func110,ntmps110;refine Ot (v0:=(oZ b o)) (v1:=(.int .i8 (2*(k:Int)+1))) (n:=23) kR kR kR kR ?_;intro a0 g x q;have f:=RG.St.begin w;have r:RG.M w w.heap.size [] 23 [] [] [(0,.v (oZ b o)),(1,.v (.int .i8 (2*(k:Int)+1)))] a0 _:=⟨f,g,⟨x,q,yCl⟩⟩
 repeat refine Uy ?_
 refine r.T [.m 0] [(0,RG.z 12)] [] [RG.z 12] [0,1,4] ⟨mk 0 185,yCl⟩ ?_;intro y C a p;repeat refine Uy ?_
 refine p.U [.x (.int .i8 (2*(k:Int)+1)),.x (.bool false)] [0,1,4,6] ⟨st,aP rfl .lss 187 187 5 (.int .i8 (2*(k:Int)+1)) (.int .i8 0) (.bool false) rfl rfl sx (λw=>kR) c,yCl⟩ ?_;intro a2 B i;repeat refine Uy ?_
 refine VH i.ev ?_;refine WR ?_;repeat refine Uy ?_
 refine i.T [.x (oZ b o),.x (.int .i8 (2*(k:Int)+1)),.x (.int .i8 k),.x (oZ b o),.x (.pointer (some ⟨b,o+0,none⟩)),.x (.pointer (some ⟨b,(o+0)+12*k,none⟩)),.x (tv s),.u 0] [] [(0,7,tw s)] [tw s] [4] ⟨st,st,aP rfl .quo 187 187 17 (.int .i8 (2*(k:Int)+1)) (.int .i8 2) (.int .i8 k) rfl rfl sx (λw=>kR) (NL k j),st,st,bD rfl 186 20 18 rfl (.v (.pointer (some ⟨b,o+0,none⟩))) (.int .i8 k) sx sx (λμ w=>J7 _ _ k j w),eH rfl b ((o+0)+12*k) t UX 185 21 rfl (tw s) rfl sx u iF i117,RG.pt i117,yCl⟩ ?_;intro z A d;refine We ?_;refine UD (v:=tv s) (aI d.st 4 185 rfl 0 _ rfl (d.at (s:=(.p 0 0))) iF i117) d.sl.defers ?_;exact⟨_,rfl,d.st.bel.below,rfl⟩
def tmJ(x y:Fin P)(d:Int):T3 P:=if d<0 then opJ (od x y ((-d).toNat/2)) else od x y (d.toNat/2)
theorem QF(C:Fld P){x y:Fin P}{p:EC.Pt P}(h:Pair x y p)(b:On p){d:Int}(hd:d%2=1):JacT (tmJ x y d) (eF d p):=by
 unfold tmJ;by_cases c:d<0
 ·rw[yCj c];have k:=(O4 C h b ((-d).toNat/2)).neg;rw[<-Bw C.cur b]at k;rw[show -((2*((-d).toNat/2)+1:Nat):Int)=d by omega]at k;exact k
 ·rw[yCk c];have k:=O4 C h b (d.toNat/2);rw[show((2*(d.toNat/2)+1:Nat):Int)=d by omega]at k;exact k
def inn(ns:Nat->Nat)(xs ys:Nat->Fin P)(st:T3 P)(place:Nat):Nat->T3 P
 | 0=>st
 | i+1=>if eY (ns i) place=0 then inn ns xs ys st place i else plJ (inn ns xs ys st place i) (tmJ (xs i) (ys i) (eY (ns i) place))
def iH(ns:Nat->Nat)(xs ys:Nat->Fin P)(N:Nat):Nat->T3 P
 | 0=>(0,0,0)
 | m+1=>inn ns xs ys (twJ (iH ns xs ys N m)) (256-m) N
theorem NI(C:Fld P){ns:Nat->Nat}{xs ys:Nat->Fin P}{p:Nat->EC.Pt P}{N:Nat}(b:∀i,i<N->ns i<2^256)(f:∀i,i<N->Pair (xs i) (ys i) (p i))(ho:∀i,i<N->On (p i)){st:T3 P}{g:Nat->Int}{place:Nat}
 (h:JacT st (tot p N g)):∀i,i<=N->JacT (inn ns xs ys st place i) (tot p N (λj=>if j<i then g j+eY (ns j) place else g j))
 | 0,_=>by
  have:tot p N (λj=>if j<0 then g j+eY (ns j) place else g j)=tot p N g:=eJ N λj _=>yCk oM
  rw[this];exact h
 | i+1,hi=>by
  have l:=NI C b f ho (place:=place) h i oM;have e:tot p N (λj=>if j<i+1 then g j+eY (ns j) place else g j)=EC.add (tot p N (λj=>if j<i then g j+eY (ns j) place else g j)) (eF (eY (ns i) place) (p i)):=by
   rw[<-Lh C.cur _ i (eY (ns i) place) N oM ho];refine eJ N λj _=>?_
   by_cases k:j=i
   ·subst k;rw[yCj oM,yCj rfl,yCk oM]
   ·rw[yCk k];by_cases d:j<i
    ·rw[yCj oM,yCj d]
    ·rw[yCk oM,yCk d]
  rw[e];unfold inn;by_cases d:eY (ns i) place=0
  ·rw[yCj d,d,Gg,bK];exact l
  ·rw[yCk d];obtain⟨q,c,-,m⟩:=A8 (b i oM);rcases m.ho place with k|k
   ·exact absurd k d
   ·exact l.plus C (QF C (f i oM) (ho i oM) k.1)
theorem Ia(C:Fld P){ns:Nat->Nat}{xs ys:Nat->Fin P}{p:Nat->EC.Pt P}{N:Nat}(k:∀i,i<N->ns i<2^256)(c:∀i,i<N->Pair (xs i) (ys i) (p i))(ho:∀i,i<N->On (p i)):
 ∀m,m<=257->JacT (iH ns xs ys N m) (tot p N (λj=>DG.hor (eY (ns j)) m))
 | 0,_=>by
  rw[show tot p N (λj=>DG.hor (eY (ns j)) 0)=.none from v9 p N (λ_ _=>rfl)];exact JacT.none
 | m+1,hm=>by
  have b:=(Ia C k c ho m oM).twice C;rw[<-Gl C.cur _ N ho]at b;have f:=NI C k c ho (place:=256-m) b N (Uv _);have e:tot p N (λj=>DG.hor (eY (ns j)) (m+1))=tot p N (λj=>if j<N then 2*DG.hor (eY (ns j)) m+eY (ns j) (256-m) else 2*DG.hor (eY (ns j)) m):=
   eJ N λj d=>by rw[yCj d];rfl
  rw[e];exact f
theorem BE(C:Fld P){ns:Nat->Nat}{xs ys:Nat->Fin P}{p:Nat->EC.Pt P}{N:Nat}(k:∀i,i<N->ns i<2^256)(g:∀i,i<N->Pair (xs i) (ys i) (p i))(ho:∀i,i<N->On (p i)):
 JacT (iH ns xs ys N 257) (tot p N (λj=>(ns j:Int))):=by
 have h:=Ia C k g ho 257 (Uv _);have e:tot p N (λj=>(ns j:Int))=tot p N (λj=>DG.hor (eY (ns j)) 257):=eJ N λj d=>by
  obtain⟨q,c,b,f⟩:=A8 (k j d);exact(DG.MG f b).symm
 rw[e];exact h
def cc(ns:Nat->Nat)(xs ys:Nat->Fin P)(C0:List Us):Nat->List Us
 | 0=>C0
 | i+1=>fc (xs i) (ys i) (eY (ns i)) (cc ns xs ys C0 i) (353*i) 8
theorem NU{ns:Nat->Nat}{xs ys:Nat->Fin P}{C0:List Us}{N:Nat}(e:C0.length=353*N):∀i,i<=N->(cc ns xs ys C0 i).length=353*N /\
 ∀j,j<i->(∀q,q<257->(cc ns xs ys C0 i)[353*j+96+q]? = some (.int .i8 (eY (ns j) q)))/\∀q r,q<8->r<12->(cc ns xs ys C0 i)[353*j+12*q+r]? = (tw (od (xs j) (ys j) q))[r]?
 | 0,_=>⟨e,λj l=>oM⟩
 | i+1,hi=>by
  obtain⟨f,m⟩:=NU e i oM;have b:=Fq (x:=xs i) (y:=ys i) (D:=eY (ns i)) (C0:=cc ns xs ys C0 i) (off:=353*i) (by rw[f];omega) 8 (Uv _);refine⟨by rw[<-f];exact b.len,λj l=>?_⟩;by_cases c:j=i
  ·subst c;exact⟨b.dig,λq r k d=>b.odd q r k d⟩
  ·obtain⟨g,n⟩:=m j oM;exact⟨λq k=>(b.out _ oM).trans (g q k),λq r k d=>(b.out _ oM).trans (n q r k d)⟩
theorem Ry(N:Nat)(g:N<=512):∃C0:List Us,C0.length=353*N/\∀w:Uq,(XB 182 (iZ N) (iZ N)).run prog w=.ok (sZ w.heap.size N N) (w.alloc (.cells C0.toArray 190)):=by
 have c:prog.underlying 182=some (.slice 190):=kR;have f:(prog.info? 190).map (λi=>(i.size,decide (i.bytes<=4000),i.zero.isSome))=some (353,true,true):=kR;obtain⟨i,b,k⟩:=Ux.1 f;simp only[V5.injEq,decide_eq_true_eq]at k;obtain⟨n,d,m⟩:=k;obtain⟨z,e⟩:=Vq.1 m;refine⟨(madeCells z.cells (N*353)).toList,by rw[UJ,YI,Vu],λw=>?_⟩;have j:(i.bytes:Int)*(N:Int)<=281474976710656:=by
  have:i.bytes*N<=4000*512:=WP d g;have l:((i.bytes*N:Nat):Int)<=281474976710656:=oM;rwa[Xv]at l
 have:=run_make (P:=prog) w 182 190 i z c b e .i64 .i64 (N:Int) (N:Int) oM oM j oM;rw[XZ,n]at this;rw[XC];exact this
theorem JA(F:Fld P){n:Nat}(c:n<top)(x y:Fin P)(C0:List Us)(b off:Nat)(k:off+353<=C0.length)(w:Uq)(d:w.there b 0 C0.length)(i:w.rangeAt b 0 C0):
 UG prog 107 #[oZ b off,nv n,pv x y] w (Ret λr w'=>PutTo b C0.length (fc x y (eY n) C0 off 8) w w'/\r=.tuple #[]):=by
 have g:b<w.heap.size:=by
  have j:=(d 0 oM).1;exact Ws λc=>by
   have f:w.heap[b]? = none:=Array.getElem?_eq_none oM;simp[VX,f]at j
 refine(PP F c x y C0 b off k w g d i).mono ?_;rintro e w' ⟨v,rfl,⟨C,j,f⟩,rfl⟩;refine⟨_,rfl,?_,rfl⟩;rw[(Fq k 8 (Uv _)).uniq j];exact f
theorem Lm(F:Fld P)(k o:Nat)(x y:Fin P){d:Int}(hd:d%2=1)(i:-15<=d/\d<=15)(w:Uq)(c:k<w.heap.size)(g:∀q,q<8->w.rangeAt k (o+0+12*q) (tw (od x y q))):
 UG prog 110 #[oZ k o,.int .i8 d] w (rZ w λe w'=>e=tv (tmJ x y d)):=by
 unfold tmJ;by_cases f:d<0
 ·rw[yCj f];have b:=Ll F k o ((-d).toNat/2) oM (od x y ((-d).toNat/2)) w c (g _ oM);rw[show -(2*(((-d).toNat/2:Nat):Int)+1)=d by omega]at b;exact b
 ·rw[yCk f];have b:=Lj F k o (d.toNat/2) oM (od x y (d.toNat/2)) w c (g _ oM);rw[show 2*((d.toNat/2:Nat):Int)+1=d by omega]at b;exact b
theorem SY{P:Nat}[NeZero P](w:Uq):(Instr.alloc 185 true (.tuple #[])).run prog w=.ok (jZ w.heap.size) (w.alloc (.cells (tw ((0,0,0):T3 P)).toArray 185)):=by
 show _=Result.ok _ (w.alloc (.cells (ws (0:Fin P)++(ws (0:Fin P)++ws (0:Fin P))).toArray 185));rw[<-Av];kernel_rfl
theorem Ro(w:Uq):(binOp .neq 187 (.int .i8 0) (.int .i8 0)).run prog w=.ok (.bool false) w:=kR
theorem Rn{d:Int}(h:¬d=0)(w:Uq):(binOp .neq 187 (.int .i8 d) (.int .i8 0)).run prog w=.ok (.bool true) w:=by
 go_simp
theorem sub1'(q:Nat)(k:q<1000)(w:Uq):(binOp .sub 3 (iZ q) (iZ 1)).run prog w=.ok (iZ ((q:Int)-1)) w:=De _ _ oM oM w
theorem geq0'(i:Nat)(w:Uq):(binOp .geq 3 (iZ i) (iZ 0)).run prog w=.ok (.bool true) w:=by
 go_simp
theorem H9(F:Fld P)(N:Nat)(hN:N<=512)(ns:Nat->Nat)(xs ys:Nat->Fin P)(ko:∀i,i<N->ns i<top)(g o:Nat)(w:Uq)(kv:g<w.heap.size)(kp:o<w.heap.size)
 (hn:∀i,i<N->w.rangeAt g (4*i) (wn (ns i))) (W:∀i,i<N->w.rangeAt o (8*i) (ws (xs i)++ws (ys i))) :
 UG prog 48 #[sZ g N N,sZ o N N] w (rZ w λe w'=>∃s,s=iH ns xs ys N 257/\e=pv (s.1*(inv s.2.2*inv s.2.2)) (s.2.1*(inv s.2.2*inv s.2.2)*inv s.2.2)):=by
 obtain⟨C,bg,be⟩:=Ry N hN;have h3:∀(i:Nat) (c2:List Us),fc (xs i) (ys i) (eY (ns i)) (cc ns xs ys C i) (353*i) 8=c2->cc ns xs ys C (i+1)=c2:=λi c2 h=>h
 obtain⟨i,-⟩:∃i:Nat,i=0:=⟨_,rfl⟩
 obtain⟨q,-⟩:∃i:Nat,i=0:=⟨_,rfl⟩
 obtain⟨d,-⟩:∃i:Int,i=0:=⟨_,rfl⟩
 obtain⟨C2,-⟩:∃c:List Us,c=C:=⟨_,rfl⟩
 obtain⟨s,-⟩:∃s:T3 P,s=(0,0,0):=⟨_,rfl⟩
 obtain⟨s2,-⟩:∃s:T3 P,s=(0,0,0):=⟨_,rfl⟩
 obtain⟨s3,-⟩:∃s:T3 P,s=(0,0,0):=⟨_,rfl⟩
 obtain⟨s4,-⟩:∃s:T3 P,s=(0,0,0):=⟨_,rfl⟩
 go_enter func48,ntmps48;refine Ot (v0:=(sZ g N N)) (v1:=(sZ o N N)) (n:=62) kR kR kR kR ?_;intro a0 bi f0 f1;have bh:=RG.St.begin w;have M0:RG.M w w.heap.size [] 62 [] [] [(0,.v (sZ g N N)),(1,.v (sZ o N N))] a0 _:=⟨bh,bi,⟨f0,f1,yCl⟩⟩
 repeat refine Uy ?_
 refine M0.T [.m 0] [(0,RG.z 8)] [] [RG.z 8] [0,1,4] ⟨mk 0 93,yCl⟩ ?_;intro j1 a1 w1 M1;repeat refine Uy ?_
 refine M1.t [.x 11 [] (sZ g N N),.x 12 [(11,0)] (iZ N),⟨some 13,[(12,1)],.s 1 N N,.make 1⟩,.s 5 [(13,2)] (.s 1 N N)] [(2,C)] [] [RG.z 8,C] [(0,.v (sZ g N N)),(1,.v (sZ o N N)),(4,.p 0 0),(5,.s 1 N N)] ⟨st,fQ rfl 11 (.v (sZ g N N)) (iZ N) rfl sx (λa w=>kR) (λμ w=>kR),mJ 1 rfl _ rfl 182 190 12 12 N rfl rfl sx sx be,st,yCl⟩ ?_;intro j2 a2 w2 M2;repeat refine Uy ?_
 refine M2.U [.s (.s 1 N N),.x (iZ N),.x (iZ 0)] [0,1,4,5,15,16] ⟨st,fQ rfl 14 (.s 1 N N) (iZ N) rfl sx (λa w=>kR) (λμ w=>kR),st,yCl⟩ ?_;intro a3 w3 M3;have kk:a3.tmps[0]? = some (sZ g N N):=M3.at (s:=(.v (sZ g N N)));have kd:a3.tmps[1]? = some (sZ o N N):=M3.at (s:=(.v (sZ o N N)));have kf:a3.tmps[4]? = some (jZ j1):=M3.at (s:=(.p 0 0));have ki:a3.tmps[5]? = some (sZ j2 N N):=M3.at (s:=(.s 1 N N));have hc:a3.tmps[15]? = some (iZ N):=M3.at (s:=(.v (iZ N)));have hp:a3.tmps[16]? = some (iZ 0):=M3.at (s:=(.v (iZ 0)));repeat refine Uy ?_
 refine XG ?_;refine Ze (λm a wr=>∃i,i+m=N/\Sl a 62/\a.tmps[0]? = some (sZ g N N)/\a.tmps[1]? = some (sZ o N N)/\a.tmps[4]? = some (jZ j1)/\a.tmps[5]? = some (sZ j2 N N)/\a.tmps[15]? = some (iZ N)/\a.tmps[16]? = some (iZ i)/\RG.St w w.heap.size [] [[uZ 0,uZ 0,uZ 0,uZ 0,uZ 0,uZ 0,uZ 0,uZ 0],cc ns xs ys C i] [j1,j2] wr) N ⟨0,oM,M3.sl,kk,kd,kf,ki,hc,hp,M3.st⟩ ?_;intro m a wr;rintro⟨i,b8,sl,p0,p1,p4,p5,ke,kg,Q⟩;generalize j1=u at p4 Q;generalize j2=z at p5 Q;obtain⟨C,kc⟩:∃c,cc ns xs ys C i=c:=⟨_,rfl⟩
 have V:=NU (ns:=ns) (xs:=xs) (ys:=ys) bg i oM;rw[kc]at Q V;by_cases p:i<N
 ·obtain⟨C2,x⟩:∃c,fc (xs i) (ys i) (eY (ns i)) C (353*i) 8=c:=⟨_,rfl⟩
  have B:353*i+353<=C.length:=by rw[V.1];omega
  have R:C2.length=C.length:=x ▸ (Fq B 8 (Uv _)).len;have G:∀(k:Nat) (w:Uq),w.there k 0 C.length->w.rangeAt k 0 C->UG prog 107 #[.pointer (some ⟨k,353*i,none⟩),nv (ns i),pv (xs i) (ys i)] w (Ret λr w'=>PutTo k C.length C2 w w'/\r=.tuple #[]):=λk w M hr=>x ▸ JA F (ko i p) (xs i) (ys i) C k (353*i) B w M hr
  have S:w.rangeAt g (0+4*i) (wn (ns i)):=by rw[UC];exact hn i p
  have T:w.rangeAt o (0+8*i) (ws (xs i)++ws (ys i)):=by rw[UC];exact W i p
  have K:RG.M w w.heap.size [] 62 [RG.z 8,C] [u,z] [(0,.v (sZ g N N)),(1,.v (sZ o N N)),(4,.p 0 0),(5,.s 1 N N),(15,.v (iZ N)),(16,.v (iZ i))] a _:=⟨Q,sl,⟨p0,p1,p4,p5,ke,kg,yCl⟩⟩
  repeat refine Uy ?_
  refine K.U [.x (.bool true)] [0,1,4,5,15,16,17] ⟨aQ rfl .lss 3 3 16 15 (iZ i) (iZ N) (.bool true) rfl rfl sx sx (λw=>kR) (gA p),yCl⟩ ?_;intro bn X J;repeat refine Uy ?_
  refine VD J.ev ?_;refine WR ?_;refine Uy ?_;refine XG ?_;repeat refine Uy ?_
  refine J.U [.x (iZ i),.x (iZ i)] [0,1,4,5,6,15,16] ⟨st,st,yCl⟩ ?_;intro Z U L;repeat refine Uy ?_
  refine L.dr kR [.s 19 [] (.s 1 N N),.x 20 [] (iZ i),.s 21 [(19,0),(20,1)] (.p 1 (353*i)),.x 22 [] (sZ g N N),.x 23 [] (iZ i),.x 24 [(22,3),(23,4)] (.pointer (some ⟨g,0+4*i,none⟩)),.x 25 [(24,5)] (nv (ns i)),.x 26 [] (sZ o N N),.x 27 [] (iZ i),.x 28 [(26,7),(27,8)] (.pointer (some ⟨o,0+8*i,none⟩)),.x 29 [(28,9)] (pv (xs i) (ys i)),⟨some 30,[(21,2),(25,6),(29,10)],.v (.tuple #[]),.put 1⟩] [] [(1,11,C2)] [RG.z 8,C2] [(0,.v (sZ g N N)),(1,.v (sZ o N N)),(4,.p 0 0),(5,.s 1 N N),(15,.v (iZ N)),(16,.v (iZ i))] kR (congrArg (λn=>[n]) R) ⟨st,st,bD rfl 182 19 20 rfl (.s 1 N N) (iZ i) sx sx (λμ w=>FS _ _ _ i p w),st,st,bD rfl 89 22 23 rfl (.v (sZ g N N)) (iZ i) sx sx (λμ w=>SR _ _ _ _ i p w),eH rfl g (0+4*i) kv UX 47 24 rfl (wn (ns i)) rfl sx S u85 i85,st,st,bD rfl 100 26 27 rfl (.v (sZ o N N)) (iZ i) sx sx (λμ w=>NY _ _ _ _ i p w),eH rfl o (0+8*i) kp UX 93 28 rfl (ws (xs i)++ws (ys i)) rfl sx T gU i109,yZ 1 rfl _ rfl 107 21 25 29 (.p 1 (353*i)) (nv (ns i)) (pv (xs i) (ys i)) (.tuple #[]) rfl (λa w=>kR) sx sx sx (λμ w M hr=>G (μ 1) w M hr),yCl⟩ ?_;intro bv bm O;repeat refine Uy ?_
  refine O.U [.x (iZ ((i+1:Nat):Int)),.x (iZ ((i+1:Nat):Int))] [0,1,4,5,15,16] ⟨aP rfl .add 3 3 16 (iZ i) (iZ 1) (iZ ((i+1:Nat):Int)) rfl rfl sx (λw=>kR) (uQ i 1 oM oM),st,yCl⟩ ?_;intro l Y f;have H:l.tmps[0]? = some (sZ g N N):=f.at (s:=(.v (sZ g N N)));have D:l.tmps[1]? = some (sZ o N N):=f.at (s:=(.v (sZ o N N)));have E:l.tmps[4]? = some (jZ u):=f.at (s:=(.p 0 0));have I:l.tmps[5]? = some (sZ z N N):=f.at (s:=(.s 1 N N));have A:l.tmps[15]? = some (iZ N):=f.at (s:=(.v (iZ N)));have y:l.tmps[16]? = some (iZ ((i+1:Nat):Int)):=f.at (s:=(.v (iZ ((i+1:Nat):Int))));show ∃n',_;refine⟨m-1,oM,i+1,oM,f.sl,H,D,E,I,A,y,?_⟩;rw[h3 i C2 (by rw[kc];exact x)];exact f.st
 ·have ky:i=N:=oM;rw[ky]at V;have b5:=V.2;have b2:RG.M w w.heap.size [] 62 [RG.z 8,C] [u,z] [(0,.v (sZ g N N)),(1,.v (sZ o N N)),(4,.p 0 0),(5,.s 1 N N),(15,.v (iZ N)),(16,.v (iZ i))] a _:=⟨Q,sl,⟨p0,p1,p4,p5,ke,kg,yCl⟩⟩
  repeat refine Uy ?_
  refine b2.U [.x (.bool false)] [4,5,17] ⟨aQ rfl .lss 3 3 16 15 (iZ i) (iZ N) (.bool false) rfl rfl sx sx (λw=>kR) (nH p),yCl⟩ ?_;intro bl bk kj;repeat refine Uy ?_
  refine VH kj.ev ?_;refine wp_exit ?_;dsimp only[Exit.then,Yu];rw[yCj rfl];repeat refine Uy ?_
  refine kj.T [.m 2] [(0,tw ((0,0,0):T3 P))] [] [RG.z 8,C,tw ((0,0,0):T3 P)] [4,5,7] ⟨qH 2 rfl rfl _ rfl 185 rfl SY,yCl⟩ ?_;intro Z bq bz b7;repeat refine Uy ?_
  refine b7.U [.x (iZ 256)] [4,5,7,8] ⟨st,yCl⟩ ?_;intro h0 bu G;have k3:h0.tmps[4]? = some (jZ u):=G.at (s:=(.p 0 0));have k2:h0.tmps[5]? = some (sZ z N N):=G.at (s:=(.s 1 N N));have k6:h0.tmps[7]? = some (jZ Z):=G.at (s:=(.p 2 0));have h8:h0.tmps[8]? = some (iZ 256):=G.at (s:=(.v (iZ 256)));repeat refine Uy ?_
  refine XG ?_;refine Ze (λm a wr=>m<=257/\Sl a 62/\a.tmps[4]? = some (jZ u)/\a.tmps[5]? = some (sZ z N N)/\a.tmps[7]? = some (jZ Z)/\a.tmps[8]? = some (iZ ((m:Int)-1))/\RG.St w w.heap.size [] [[uZ 0,uZ 0,uZ 0,uZ 0,uZ 0,uZ 0,uZ 0,uZ 0],C,tw (iH ns xs ys N (257-m))] [u,z,Z] wr) 257 ⟨Uv _,G.sl,k3,k2,k6,h8,?_⟩ ?_
  ·rw[YU,iH];exact G.st
  intro m b wr;rintro⟨hm,km,q4,q5,q7,q8,E⟩;generalize Z=J at q7 E;by_cases hz:m=0
  ·subst hz;rw[show 257-0=257 from rfl]at E;obtain⟨s,L⟩:∃s,iH ns xs ys N 257=s:=⟨_,rfl⟩
   rw[L]at E;have x:RG.M w w.heap.size [] 62 [RG.z 8,C,tw s] [u,z,J] [(4,.p 0 0),(5,.s 1 N N),(7,.p 2 0),(8,.v (iZ (-1)))] b _:=⟨E,km,⟨q4,q5,q7,q8,yCl⟩⟩
   repeat refine Uy ?_
   refine x.U [.x (iZ (-1)),.x (.bool false)] [4,7,33] ⟨st,st,yCl⟩ ?_;intro B y l;repeat refine Uy ?_
   refine VH l.ev ?_;refine wp_exit ?_;dsimp only[Exit.then,Yu];rw[yCj rfl];repeat refine Uy ?_
   refine l.T [.x (tv s),.c (pv (s.1*(inv s.2.2*inv s.2.2)) (s.2.1*(inv s.2.2*inv s.2.2)*inv s.2.2)),.u 0] [] [(0,2,ws (s.1*(inv s.2.2*inv s.2.2))++(ws (s.2.1*(inv s.2.2*inv s.2.2)*inv s.2.2)))] [ws (s.1*(inv s.2.2*inv s.2.2))++(ws (s.2.1*(inv s.2.2*inv s.2.2)*inv s.2.2)),C,tw s] [4] ⟨ld iF i117,cl (QZ F s),RG.pt i109,yCl⟩ ?_;intro D A f;refine We ?_;refine UD (v:=pv (s.1*(inv s.2.2*inv s.2.2)) (s.2.1*(inv s.2.2*inv s.2.2)*inv s.2.2)) (aI f.st 4 93 rfl 0 _ rfl (f.at (s:=(.p 0 0))) gU i109) f.sl.defers ?_;exact⟨_,rfl,f.st.bel.below,s,L.symm,rfl⟩
  ·obtain⟨q,rfl⟩:∃q,m=q+1:=⟨m-1,oM⟩
   have hq:q<257:=oM;replace q8:b.tmps[8]? = some (iZ q):=by rw[q8];congr 2;omega
   obtain⟨s,L⟩:∃s,iH ns xs ys N (257-(q+1))=s:=⟨_,rfl⟩
   rw[L]at E;obtain⟨s2,h4⟩:∃t,twJ s=t:=⟨_,rfl⟩
   have b6:=h4 ▸ Ns F s;have O:iH ns xs ys N (257-q)=inn ns xs ys s2 q N:=by
    rw[show 257-q=257-(q+1)+1 by omega];show inn ns xs ys (twJ (iH ns xs ys N (257-(q+1)))) (256-(257-(q+1))) N=_;rw[L,h4,show 256-(257-(q+1))=q by omega]
   have b3:RG.M w w.heap.size [] 62 [RG.z 8,C,tw s] [u,z,J] [(4,.p 0 0),(5,.s 1 N N),(7,.p 2 0),(8,.v (iZ q))] b _:=⟨E,km,⟨q4,q5,q7,q8,yCl⟩⟩
   repeat refine Uy ?_
   refine b3.U [.x (iZ q),.x (.bool true)] [4,5,7,8,33] ⟨st,aP rfl .geq 3 3 32 (iZ q) (iZ 0) (.bool true) rfl rfl sx (λw=>kR) (geq0' q),yCl⟩ ?_;intro bt bo kh;repeat refine Uy ?_
   refine VD kh.ev ?_;refine WR ?_;refine Uy ?_;refine XG ?_;repeat refine Uy ?_
   refine kh.T [.x (tv s),.c (tv s2),.u 2] [] [(2,2,tw s2)] [RG.z 8,C,tw s2] [4,5,7,8] ⟨ld iF i117,cl b6,RG.pt i117,yCl⟩ ?_;intro bp bs bj;repeat refine Uy ?_
   refine bj.U [.s (.s 1 N N),.x (iZ N),.x (iZ 0)] [4,5,7,8,39,40] ⟨st,fQ rfl 38 (.s 1 N N) (iZ N) rfl sx (λa w=>kR) (λμ w=>kR),st,yCl⟩ ?_;intro H c0 A;have hb:H.tmps[4]? = some (jZ u):=A.at (s:=(.p 0 0));have k7:H.tmps[5]? = some (sZ z N N):=A.at (s:=(.s 1 N N));have hk:H.tmps[7]? = some (jZ J):=A.at (s:=(.p 2 0));have k4:H.tmps[8]? = some (iZ q):=A.at (s:=(.v (iZ q)));have T:H.tmps[39]? = some (iZ N):=A.at (s:=(.v (iZ N)));have U:H.tmps[40]? = some (iZ 0):=A.at (s:=(.v (iZ 0)));repeat refine Uy ?_
   refine XG ?_;refine Ze (λm a wr=>∃i,i+m=N/\Sl a 62/\a.tmps[4]? = some (jZ u)/\a.tmps[5]? = some (sZ z N N)/\a.tmps[7]? = some (jZ J)/\a.tmps[8]? = some (iZ q)/\a.tmps[39]? = some (iZ N)/\a.tmps[40]? = some (iZ i)/\RG.St w w.heap.size [] [[uZ 0,uZ 0,uZ 0,uZ 0,uZ 0,uZ 0,uZ 0,uZ 0],C,tw (inn ns xs ys s2 q i)] [u,z,J] wr) N ⟨0,oM,A.sl,hb,k7,hk,k4,T,U,A.st⟩ ?_;intro m' c wr;rintro⟨i,b8,hl,r4,r5,r7,r8,hw,k1,W⟩;obtain⟨s,D⟩:∃s,inn ns xs ys s2 q i=s:=⟨_,rfl⟩
   rw[D]at W;by_cases p:i<N
   ·obtain⟨h1,h2⟩:=b5 i p;obtain⟨d,S⟩:∃d,eY (ns i) q=d:=⟨_,rfl⟩
    have x:=S ▸ h1 q hq;have kb:C≠[]:=by intro h;rw[h]at x;simp at x
    have f:inn ns xs ys s2 q (i+1)=if d=0 then s else plJ s (tmJ (xs i) (ys i) d):=by rw[<-D,<-S];rfl
    by_cases M:d=0
    ·rw[yCj M]at f;rw[M]at x;have k9:RG.M w w.heap.size [] 62 [RG.z 8,C,tw s] [u,z,J] [(4,.p 0 0),(5,.s 1 N N),(7,.p 2 0),(8,.v (iZ q)),(39,.v (iZ N)),(40,.v (iZ i))] c _:=⟨W,hl,⟨r4,r5,r7,r8,hw,k1,yCl⟩⟩
     repeat refine Uy ?_
     refine k9.U [.x (.bool true)] [4,5,7,8,39,40,41] ⟨aQ rfl .lss 3 3 40 39 (iZ i) (iZ N) (.bool true) rfl rfl sx sx (λw=>kR) (gA p),yCl⟩ ?_;intro bf b4 R;repeat refine Uy ?_
     refine VD R.ev ?_;refine WR ?_;refine Uy ?_;refine XG ?_;repeat refine Uy ?_
     refine R.U [.x (iZ i),.x (iZ i)] [4,5,7,8,9,39,40] ⟨st,st,yCl⟩ ?_;intro bd b9 he;repeat refine Uy ?_
     refine he.U [.s (.s 1 N N),.x (iZ i),.x (iZ q),.s (.p 1 (353*i)),.s (.p 1 ((353*i)+96)),.s (.p 1 (((353*i)+96)+q)),.x (.int .i8 0),.x (.int .i8 0)] [4,5,7,8,10,39,40] ⟨st,st,st,bD rfl 182 43 44 rfl (.s 1 N N) (iZ i) sx sx (λμ w=>FS _ _ _ i p w),st,bD rfl 188 47 45 rfl (.p 1 ((353*i)+96)) (iZ q) sx sx (λμ w=>J6 _ _ q hq w),yK rfl 1 (((353*i)+96)+q) _ rfl rfl kR 187 48 rfl (.int .i8 0) rfl sx x QE,st,yCl⟩ ?_;intro bc ba hg;repeat refine Uy ?_
     refine hg.U [.x (.int .i8 0),.x (.bool false)] [4,5,7,8,39,40,51] ⟨st,aP rfl .neq 187 187 50 (.int .i8 0) (.int .i8 0) (.bool false) rfl rfl sx (λw=>kR) Ro,yCl⟩ ?_;intro kx ku K;repeat refine Uy ?_
     refine VH K.ev ?_;refine WR ?_;repeat refine Uy ?_
     refine K.U [.x (iZ ((i+1:Nat):Int)),.x (iZ ((i+1:Nat):Int))] [4,5,7,8,39,40] ⟨aP rfl .add 3 3 40 (iZ i) (iZ 1) (iZ ((i+1:Nat):Int)) rfl rfl sx (λw=>kR) (uQ i 1 oM oM),st,yCl⟩ ?_;intro B bb l;have X:B.tmps[4]? = some (jZ u):=l.at (s:=(.p 0 0));have k5:B.tmps[5]? = some (sZ z N N):=l.at (s:=(.s 1 N N));have hs:B.tmps[7]? = some (jZ J):=l.at (s:=(.p 2 0));have Y:B.tmps[8]? = some (iZ q):=l.at (s:=(.v (iZ q)));have y:B.tmps[39]? = some (iZ N):=l.at (s:=(.v (iZ N)));have I:B.tmps[40]? = some (iZ ((i+1:Nat):Int)):=l.at (s:=(.v (iZ ((i+1:Nat):Int))));show ∃n',_;exact⟨m'-1,oM,i+1,oM,l.sl,X,k5,hs,Y,y,I,by rw[f];exact l.st⟩
    ·rw[yCk M]at f;have h5:d%2=1/\-15<=d/\d<=15:=by
      obtain⟨_,_,-,y⟩:=A8 (show ns i<2^256 from ko i p);rcases y.ho q with h|h
      ·exact absurd (S ▸ h) M
      ·exact S ▸ h
     obtain⟨s3,h7⟩:∃t,tmJ (xs i) (ys i) d=t:=⟨_,rfl⟩
     obtain⟨s4,h6⟩:∃t,plJ s s3=t:=⟨_,rfl⟩
     have kw:=h6 ▸ Nz F s s3;have kz:∀(k:Nat) (w:Uq),k<w.heap.size->w.rangeAt k 0 C->UG prog 110 #[.pointer (some ⟨k,353*i,none⟩),.int .i8 d] w (rZ w λr w'=>r=tv s3):=λk w hy hr =>
      h7 ▸ Lm F k (353*i) (xs i) (ys i) h5.1 h5.2 w hy (λX y=>rV hr (λj I=>by rw[XA];exact h2 X j y (by rw[cJ]at I;exact I)))
     rw[h7,h6]at f;have k9:RG.M w w.heap.size [] 62 [RG.z 8,C,tw s] [u,z,J] [(4,.p 0 0),(5,.s 1 N N),(7,.p 2 0),(8,.v (iZ q)),(39,.v (iZ N)),(40,.v (iZ i))] c _:=⟨W,hl,⟨r4,r5,r7,r8,hw,k1,yCl⟩⟩
     repeat refine Uy ?_
     refine k9.U [.x (.bool true)] [4,5,7,8,39,40,41] ⟨aQ rfl .lss 3 3 40 39 (iZ i) (iZ N) (.bool true) rfl rfl sx sx (λw=>kR) (gA p),yCl⟩ ?_;intro bf b4 R;repeat refine Uy ?_
     refine VD R.ev ?_;refine WR ?_;refine Uy ?_;refine XG ?_;repeat refine Uy ?_
     refine R.U [.x (iZ i),.x (iZ i)] [4,5,7,8,9,39,40] ⟨st,st,yCl⟩ ?_;intro bd b9 he;repeat refine Uy ?_
     refine he.U [.s (.s 1 N N),.x (iZ i),.x (iZ q),.s (.p 1 (353*i)),.s (.p 1 ((353*i)+96)),.s (.p 1 (((353*i)+96)+q)),.x (.int .i8 d),.x (.int .i8 d)] [4,5,7,8,9,10,39,40] ⟨st,st,st,bD rfl 182 43 44 rfl (.s 1 N N) (iZ i) sx sx (λμ w=>FS _ _ _ i p w),st,bD rfl 188 47 45 rfl (.p 1 ((353*i)+96)) (iZ q) sx sx (λμ w=>J6 _ _ q hq w),yK rfl 1 (((353*i)+96)+q) _ rfl rfl kR 187 48 rfl (.int .i8 d) rfl sx x QE,st,yCl⟩ ?_;intro bc ba hg;repeat refine Uy ?_
     refine hg.U [.x (.int .i8 d),.x (.bool true)] [4,5,7,8,9,10,39,40,51] ⟨st,aP rfl .neq 187 187 50 (.int .i8 d) (.int .i8 0) (.bool true) rfl rfl sx (λw=>kR) (Rn M),yCl⟩ ?_;intro kx ku K;repeat refine Uy ?_
     refine VD K.ev ?_;repeat refine Uy ?_
     refine K.D [.x (tv s),.s (.s 1 N N),.x (iZ i),.s (.p 1 (353*i)),.x (.int .i8 d),.c (tv s3),.c (tv s4),.u 2] [] [(2,7,tw s4)] [RG.z 8,C,tw s4] [4,5,7,8,39,40] ⟨ld iF i117,st,st,bD rfl 182 53 54 rfl (.s 1 N N) (iZ i) sx sx (λμ w=>FS _ _ _ i p w),st,CE rfl 1 _ rfl rfl kR kb 110 55 56 (.p 1 (353*i)) (.int .i8 d) (tv s3) rfl (λa w=>kR) sx sx (λμ w hy hr=>kz (μ 1) w hy hr),cl kw,RG.pt i117,yCl⟩ ?_;intro B bb l;repeat refine Uy ?_
     refine l.U [.x (iZ ((i+1:Nat):Int)),.x (iZ ((i+1:Nat):Int))] [4,5,7,8,39,40] ⟨aP rfl .add 3 3 40 (iZ i) (iZ 1) (iZ ((i+1:Nat):Int)) rfl rfl sx (λw=>kR) (uQ i 1 oM oM),st,yCl⟩ ?_;intro I br y;have hu:I.tmps[4]? = some (jZ u):=y.at (s:=(.p 0 0));have k8:I.tmps[5]? = some (sZ z N N):=y.at (s:=(.s 1 N N));have k0:I.tmps[7]? = some (jZ J):=y.at (s:=(.p 2 0));have h9:I.tmps[8]? = some (iZ q):=y.at (s:=(.v (iZ q)));have Y:I.tmps[39]? = some (iZ N):=y.at (s:=(.v (iZ N)));have X:I.tmps[40]? = some (iZ ((i+1:Nat):Int)):=y.at (s:=(.v (iZ ((i+1:Nat):Int))));show ∃n',_;exact⟨m'-1,oM,i+1,oM,y.sl,hu,k8,k0,h9,Y,X,by rw[f];exact y.st⟩
   ·have M:i=N:=oM;rw[M]at D;rw[D]at O;have R:RG.M w w.heap.size [] 62 [RG.z 8,C,tw s] [u,z,J] [(4,.p 0 0),(5,.s 1 N N),(7,.p 2 0),(8,.v (iZ q)),(39,.v (iZ N)),(40,.v (iZ i))] c _:=⟨W,hl,⟨r4,r5,r7,r8,hw,k1,yCl⟩⟩
    repeat refine Uy ?_
    refine R.U [.x (.bool false)] [4,5,7,8,41] ⟨aQ rfl .lss 3 3 40 39 (iZ i) (iZ N) (.bool false) rfl rfl sx sx (λw=>kR) (nH p),yCl⟩ ?_;intro X S K;repeat refine Uy ?_
    refine VH K.ev ?_;refine wp_exit ?_;dsimp only[Exit.then,Yu];rw[yCj rfl];repeat refine Uy ?_
    refine K.U [.x (iZ q),.x (iZ ((q:Int)-1)),.x (iZ ((q:Int)-1))] [4,5,7,8] ⟨st,aP rfl .sub 3 3 34 (iZ q) (iZ 1) (iZ ((q:Int)-1)) rfl rfl sx (λw=>kR) (sub1' q oM),st,yCl⟩ ?_;intro l Y f;have B:l.tmps[4]? = some (jZ u):=f.at (s:=(.p 0 0));have x:l.tmps[5]? = some (sZ z N N):=f.at (s:=(.s 1 N N));have I:l.tmps[7]? = some (jZ J):=f.at (s:=(.p 2 0));have y:l.tmps[8]? = some (iZ ((q:Int)-1)):=f.at (s:=(.v (iZ ((q:Int)-1))));show ∃n',_;exact⟨q,YG q,oM,f.sl,B,x,I,y,by rw[O];exact f.st⟩
def rt(m:Fin P):Option (Fin P):=if m.val^(P/4+1)%P*(m.val^(P/4+1)%P)%P=m.val then some (Xg P (even P (m.val^(P/4+1)%P))) else none
omit [NeZero P] in
theorem Ft{r:Nat}(k:0<P)(h:r<P):even P r<P:=by unfold even;split<;>omega
theorem LN{m y:Fin P}{v:Us}(h:rt m=some y)(k:Four v (even P (m.val^(P/4+1)%P))):v=fv y:=by
 unfold rt at h;split at h
 ·obtain rfl:=Option.some.inj h;have:(Xg P (even P (m.val^(P/4+1)%P))).val=even P (m.val^(P/4+1)%P):=UR (Ft (Yy P) (V4 _ (Yy P)));show v=nv _;rw[this];exact k.nv
 ·cases h
theorem Ix{m y:Fin P}(h:rt m=some y):m.val^(P/4+1)%P*(m.val^(P/4+1)%P)%P=m.val:=by
 unfold rt at h;split at h
 ·assumption
 ·cases h
theorem QS{m:Fin P}(h:rt m=none):¬m.val^(P/4+1)%P*(m.val^(P/4+1)%P)%P=m.val:=by
 unfold rt at h;split at h
 ·cases h
 ·assumption
theorem RootR.val{m:Fin P}{e:Us}(h:RootR P m.val (m.val^(P/4+1)%P) e):(∀y,rt m=some y->e=.tuple #[fv y,.bool true])/\(rt m=none->e=.tuple #[fv (0:Fin P),.bool false]):=by
 obtain⟨i,l,g,j,ok,rfl,b,d,f⟩:=h;refine⟨λy k=>?_,λc=>?_⟩
 ·cases ok with
  | true=>rw[LN k (b rfl).2]
  | false=>exact absurd (Ix k) (d rfl)
 ·cases ok with
  | true=>exact absurd (b rfl).1 (QS c)
  | false =>
   obtain⟨rfl,rfl,rfl,rfl⟩:=f rfl;rw[<-lI];rfl
theorem Qk(h:Fld P){m y:Fin P}(e:rt m=some y):Gives 191 #[gv0,fv m] (.tuple #[fv y,.bool true]):=λw =>
 (CU 4294968273 0 0 P _ m.val h.gap h.p4 (h.four m) w).mono (by rintro e' w' ⟨v,rfl,k,b⟩;exact⟨_,rfl,k,b.val.1 y e⟩)
theorem Ql(h:Fld P){m:Fin P}(e:rt m=none):Gives 191 #[gv0,fv m] (.tuple #[fv (0:Fin P),.bool false]):=λw =>
 (CU 4294968273 0 0 P _ m.val h.gap h.p4 (h.four m) w).mono (by rintro e' w' ⟨v,rfl,k,b⟩;exact⟨_,rfl,k,b.val.2 e⟩)
def gl0:List Us:=[uZ 4294968273,uZ 0,uZ 0,uZ 0]
theorem Ao(C:Fld P)(x y:Fin P)(o:rt (x*x*x+7)=some y):Gives 115 #[(fv x)] (.tuple #[pv x y,.bool true]):=by
 intro w;obtain⟨c1,g⟩:∃c,c=x*x:=⟨_,rfl⟩
 obtain⟨c2,i⟩:∃c,c=c1*x:=⟨_,rfl⟩
 obtain⟨k,e⟩:∃c,c=c2+(7:Fin P):=⟨_,rfl⟩
 have d:((.tuple #[pv x y,.bool true]):Us)=(.tuple #[pv x y,.bool true]):=by
  subst_vars;rfl
 rw[<-d];go_enter func115,ntmps115;refine RG.M.enter [(0,.v (fv x))] 31 kR ?_;intro a0 n;repeat refine Uy ?_
 refine n.T [.m 0,.m 1,.x (.bool false)] [(0,ws x),(1,RG.z 8)] [] [ws x,RG.z 8] [1,2,3] ⟨mk 0 47,mk 1 93,st,yCl⟩ ?_;intro t K J a m;repeat refine Uy ?_
 refine m.T [.c gv0,.m 2,.u 2] [(1,RG.z 4)] [(2,2,gl0)] [ws x,RG.z 8,gl0] [1,2,3,4] ⟨cl bO,mk 2 120,RG.pt i79,yCl⟩ ?_;intro F a2 E l;repeat refine Uy ?_
 refine l.D [.x gv0,.x gv0,.x gv0,.x (fv x),.x (fv x),.c (fv c1),.x (fv x),.c (fv c2),.x (fv (7:Fin P)),.c (fv k),.m 3,.u 3] [(10,RG.z 4)] [(3,11,ws k)] [ws x,RG.z 8,gl0,ws k] [1,2,3,4,5] ⟨ld u79 i79,ld u79 i79,ld u79 i79,ld u85 i85,ld u85 i85,cl ((rO C x x).e g),ld u85 i85,cl ((rO C c1 x).e i),se (BK C),cl ((FZ C c2 (7:Fin P)).e e),mk 3 47,RG.pt i85,yCl⟩ ?_;intro G u B q;repeat refine Uy ?_
 refine q.T [.x gv0,.x (fv k),.c (.tuple #[fv y,.bool true]),.x (.tuple #[fv y,.bool true]),.x (fv y),.x (.bool true),.m 4,.u 4,.x (.bool true)] [(6,RG.z 4)] [(4,7,ws y)] [ws x,RG.z 8,gl0,ws k,ws y] [1,2,3,6,7] ⟨ld u79 i79,ld u85 i85,cl (f:=191) (args:=#[gv0,fv k]) (v:=(.tuple #[fv y,.bool true])) (Qk C (by subst_vars;exact o)),st,st,st,mk 4 47,RG.pt i85,st,yCl⟩ ?_;intro H I D p;repeat refine Uy ?_
 refine p.U [.x (.bool true),.x (.bool false)] [1,2,3,6,26] ⟨st,st,yCl⟩ ?_;intro L A j;repeat refine Uy ?_
 refine VH j.ev ?_;refine WR ?_;repeat refine Uy ?_
 refine j.T [.x (fv x),.x (fv y),.x (pv x y),.u 1,.x (.bool true)] [] [(1,3,ws x++(ws y))] [ws x,ws x++(ws y),gl0,ws k,ws y] [2,3] ⟨ld u85 i85,ld u85 i85,st,RG.pt i109,st,yCl⟩ ?_;intro z r b;refine We ?_;refine UD (v:=(.tuple #[pv x y,.bool true])) (cQ b.st 2 3 93 rfl 1 _ rfl (b.at (s:=(.p 1 0))) _ (b.at (s:=(.v (.bool true)))) gU i109) b.sl.defers ?_;exact⟨_,rfl,b.st.bel.below,rfl⟩
theorem Ap(C:Fld P)(x:Fin P)(o:rt (x*x*x+7)=none):Gives 115 #[(fv x)] (.tuple #[pv (0:Fin P) 0,.bool false]):=by
 intro w;obtain⟨c1,g⟩:∃c,c=x*x:=⟨_,rfl⟩
 obtain⟨c2,i⟩:∃c,c=c1*x:=⟨_,rfl⟩
 obtain⟨k,e⟩:∃c,c=c2+(7:Fin P):=⟨_,rfl⟩
 have d:((.tuple #[pv (0:Fin P) (0:Fin P),.bool false]):Us)=(.tuple #[pv (0:Fin P) 0,.bool false]):=by
  subst_vars;rfl
 rw[<-d];go_enter func115,ntmps115;refine RG.M.enter [(0,.v (fv x))] 31 kR ?_;intro a0 n;repeat refine Uy ?_
 refine n.T [.m 0,.m 1,.x (.bool false)] [(0,ws x),(1,RG.z 8)] [] [ws x,RG.z 8] [1,2,3] ⟨mk 0 47,mk 1 93,st,yCl⟩ ?_;intro t J I z m;repeat refine Uy ?_
 refine m.T [.c gv0,.m 2,.u 2] [(1,RG.z 4)] [(2,2,gl0)] [ws x,RG.z 8,gl0] [1,2,3,4] ⟨cl bO,mk 2 120,RG.pt i79,yCl⟩ ?_;intro E a2 D l;repeat refine Uy ?_
 refine l.D [.x gv0,.x gv0,.x gv0,.x (fv x),.x (fv x),.c (fv c1),.x (fv x),.c (fv c2),.x (fv (7:Fin P)),.c (fv k),.m 3,.u 3] [(10,RG.z 4)] [(3,11,ws k)] [ws x,RG.z 8,gl0,ws k] [2,3,4,5] ⟨ld u79 i79,ld u79 i79,ld u79 i79,ld u85 i85,ld u85 i85,cl ((rO C x x).e g),ld u85 i85,cl ((rO C c1 x).e i),se (BK C),cl ((FZ C c2 (7:Fin P)).e e),mk 3 47,RG.pt i85,yCl⟩ ?_;intro F u A q;repeat refine Uy ?_
 refine q.T [.x gv0,.x (fv k),.c (.tuple #[fv (0:Fin P),.bool false]),.x (.tuple #[fv (0:Fin P),.bool false]),.x (fv (0:Fin P)),.x (.bool false),.m 4,.u 4,.x (.bool false)] [(6,RG.z 4)] [(4,7,ws (0:Fin P))] [ws x,RG.z 8,gl0,ws k,ws (0:Fin P)] [2,3,7] ⟨ld u79 i79,ld u85 i85,cl (f:=191) (args:=#[gv0,fv k]) (v:=(.tuple #[fv (0:Fin P),.bool false])) (Ql C (by subst_vars;exact o)),st,st,st,mk 4 47,RG.pt i85,st,yCl⟩ ?_;intro G H B p;repeat refine Uy ?_
 refine p.U [.x (.bool false),.x (.bool true)] [2,3,26] ⟨st,st,yCl⟩ ?_;intro K a j;repeat refine Uy ?_
 refine VD j.ev ?_;repeat refine Uy ?_
 refine j.T [.x (pv (0:Fin P) (0:Fin P)),.u 1,.x (.bool false)] [] [(1,1,ws (0:Fin P)++(ws (0:Fin P)))] [ws x,ws (0:Fin P)++(ws (0:Fin P)),gl0,ws k,ws (0:Fin P)] [2,3] ⟨se (gI (P:=P)),RG.pt i109,st,yCl⟩ ?_;intro y r b;refine We ?_;refine UD (v:=(.tuple #[pv (0:Fin P) (0:Fin P),.bool false])) (cQ b.st 2 3 93 rfl 1 _ rfl (b.at (s:=(.p 1 0))) _ (b.at (s:=(.v (.bool false)))) gU i109) b.sl.defers ?_;exact⟨_,rfl,b.st.bel.below,rfl⟩
theorem OV(C:Fld P)(x y:Fin P):Gives 227 #[(pv x y)] (pv x (0-y)):=by
 intro w;obtain⟨c1,d⟩:∃c,c=(0:Fin P)-y:=⟨_,rfl⟩
 have k:((pv x c1):Us)=(pv x (0-y)):=by
  subst_vars;rfl
 rw[<-k];go_enter func227,ntmps227;refine RG.M.enter [(0,.v (pv x y))] 11 kR ?_;intro a0 f;repeat refine Uy ?_
 refine f.T [.m 0,.m 1] [(0,ws x++(ws y)),(1,RG.z 8)] [] [ws x++(ws y),RG.z 8] [1,2] ⟨mk 0 93,mk 1 93,yCl⟩ ?_;intro g j l m e;repeat refine Uy ?_
 refine e.D [.s (.p 0 0),.x (fv x),.c gv0,.x (fv (0:Fin P)),.s (.p 0 4),.x (fv y),.c (fv c1),.x (pv x c1),.u 1] [] [(1,8,ws x++(ws c1))] [ws x++(ws y),ws x++(ws c1)] [2] ⟨st,ld u85 i85,cl bO,se (lI (P:=P)),st,ld u85 i85,cl ((Ks C (0:Fin P) y).e d),st,RG.pt i109,yCl⟩ ?_;intro a2 i b;refine We ?_;refine UD (v:=(pv x c1)) (aI b.st 2 93 rfl 1 _ rfl (b.at (s:=(.p 1 0))) gU i109) b.sl.defers ?_;exact⟨_,rfl,b.st.bel.below,rfl⟩
theorem gV{w W:Uq}{k j e a b c d i g f:Nat}(h:Kept w k [⟨e,0,a,b,c,d⟩,⟨k,0,i,g,f,0⟩,⟨j,0,0,0,0,0⟩] W):W.cell? ⟨e,0,none⟩=some (uZ a)/\W.cell? ⟨e,1,none⟩=some (uZ b)/\W.cell? ⟨e,2,none⟩=some (uZ c)/\W.cell? ⟨e,3,none⟩=some (uZ d)/\W.cell? ⟨k,0,none⟩=some (uZ i)/\W.cell? ⟨k,1,none⟩=some (uZ g)/\W.cell? ⟨k,2,none⟩=some (uZ f)/\W.cell? ⟨k,3,none⟩=some (uZ 0)/\Kept w k [⟨e,0,a,b,c,d⟩,⟨k,0,i,g,f,0⟩,⟨j,0,0,0,0,0⟩] W:=⟨h.head.c0,h.head.c1,h.head.c2,h.head.c3,h.tail.head.c0,h.tail.head.c1,h.tail.head.c2,h.tail.head.c3,h⟩
theorem nV{w W:Uq}{k j e a b c d i g f:Nat}(h:W.cell? ⟨e,0,none⟩=some (uZ a)/\W.cell? ⟨e,1,none⟩=some (uZ b)/\W.cell? ⟨e,2,none⟩=some (uZ c)/\W.cell? ⟨e,3,none⟩=some (uZ d)/\W.cell? ⟨k,0,none⟩=some (uZ i)/\W.cell? ⟨k,1,none⟩=some (uZ g)/\W.cell? ⟨k,2,none⟩=some (uZ f)/\W.cell? ⟨k,3,none⟩=some (uZ 0)/\Kept w k [⟨e,0,a,b,c,d⟩,⟨k,0,i,g,f,0⟩,⟨j,0,0,0,0,0⟩] W):Kept w k [⟨e,0,a,b,c,d⟩,⟨k,0,i,g,f,0⟩,⟨j,0,0,0,0,0⟩] W:=h.2.2.2.2.2.2.2.2
theorem BU{w W:Uq}{k j e a b c d i g f:Nat}{o:Obj}(h:W.cell? ⟨e,0,none⟩=some (uZ a)/\W.cell? ⟨e,1,none⟩=some (uZ b)/\W.cell? ⟨e,2,none⟩=some (uZ c)/\W.cell? ⟨e,3,none⟩=some (uZ d)/\W.cell? ⟨k,0,none⟩=some (uZ i)/\W.cell? ⟨k,1,none⟩=some (uZ g)/\W.cell? ⟨k,2,none⟩=some (uZ f)/\W.cell? ⟨k,3,none⟩=some (uZ 0)/\Kept w k [⟨e,0,a,b,c,d⟩,⟨k,0,i,g,f,0⟩,⟨j,0,0,0,0,0⟩] W):(W.alloc o).cell? ⟨e,0,none⟩=some (uZ a)/\(W.alloc o).cell? ⟨e,1,none⟩=some (uZ b)/\(W.alloc o).cell? ⟨e,2,none⟩=some (uZ c)/\(W.alloc o).cell? ⟨e,3,none⟩=some (uZ d)/\(W.alloc o).cell? ⟨k,0,none⟩=some (uZ i)/\(W.alloc o).cell? ⟨k,1,none⟩=some (uZ g)/\(W.alloc o).cell? ⟨k,2,none⟩=some (uZ f)/\(W.alloc o).cell? ⟨k,3,none⟩=some (uZ 0)/\Kept w k [⟨e,0,a,b,c,d⟩,⟨k,0,i,g,f,0⟩,⟨j,0,0,0,0,0⟩] (W.alloc o):=gV ((nV h).alloc o)
theorem AL{w W:Uq}{k j e a b c d i g f:Nat}{o:Obj}(h:W.drew.cell? ⟨e,0,none⟩=some (uZ a)/\W.drew.cell? ⟨e,1,none⟩=some (uZ b)/\W.drew.cell? ⟨e,2,none⟩=some (uZ c)/\W.drew.cell? ⟨e,3,none⟩=some (uZ d)/\W.drew.cell? ⟨k,0,none⟩=some (uZ i)/\W.drew.cell? ⟨k,1,none⟩=some (uZ g)/\W.drew.cell? ⟨k,2,none⟩=some (uZ f)/\W.drew.cell? ⟨k,3,none⟩=some (uZ 0)/\Kept w k [⟨e,0,a,b,c,d⟩,⟨k,0,i,g,f,0⟩,⟨j,0,0,0,0,0⟩] W.drew):(W.alloc o).drew.cell? ⟨e,0,none⟩=some (uZ a)/\(W.alloc o).drew.cell? ⟨e,1,none⟩=some (uZ b)/\(W.alloc o).drew.cell? ⟨e,2,none⟩=some (uZ c)/\(W.alloc o).drew.cell? ⟨e,3,none⟩=some (uZ d)/\(W.alloc o).drew.cell? ⟨k,0,none⟩=some (uZ i)/\(W.alloc o).drew.cell? ⟨k,1,none⟩=some (uZ g)/\(W.alloc o).drew.cell? ⟨k,2,none⟩=some (uZ f)/\(W.alloc o).drew.cell? ⟨k,3,none⟩=some (uZ 0)/\Kept w k [⟨e,0,a,b,c,d⟩,⟨k,0,i,g,f,0⟩,⟨j,0,0,0,0,0⟩] (W.alloc o).drew:=gV (((nV h).undrew).alloc o).drew
theorem Ko(pv:Us)(p:Option Wt)(n cap:Nat)(w:Uq)(c b k:Nat)(d:pv=.agg #[uZ c,uZ b,uZ k,uZ 0])(f:n≠32):
 UG prog 59 #[pv,.slice p n cap] w (rZ w λe w'=>e=.tuple #[.agg #[uZ 0,uZ 0,uZ 0,uZ 0],.bool false]):=by
 subst d;go_enter func59,ntmps59;go_wp2;refine UD (v:=?v) ?hr rfl ?hR
 case hr=>simp[results,Tryz.results59,go_sem];rfl
 exact⟨_,rfl,below2 _ _ _,rfl⟩
theorem yW(j l m P g o cap:Nat)(p:Bs)(hG:Gap j l m P)(w:Uq)(S:p.size=32)(hc:32<=cap)(U:g<w.heap.size)(W:Holds encB w g o p):
 UG prog 59 #[.agg #[.int .u64 j,.int .u64 l,.int .u64 m,.int .u64 0],.slice (some ⟨g,o,none⟩) 32 cap] w
  (Ret λe w'=>Below w.heap.size w w'/\((beV p.toList<P/\∃v,e=.tuple #[v,.bool true]/\Four v (beV p.toList))\/(P<=beV p.toList/\e=.tuple #[.agg #[.int .u64 0,.int .u64 0,.int .u64 0,.int .u64 0],.bool false]))):=by
 have F:Hid (Gap j l m P):=hG;have H:Hid (Holds encB w g o p):=W;have HS:Hid (p.size=32):=S;clear hG W S;go_enter func59,ntmps59;go_wp2_with fail
 have PR:=(At4.made w 120 j l m 0 rfl).alloc (.cells #[.int .u64 0,.int .u64 0,.int .u64 0,.int .u64 0] 47);have X:=At4.made (w.alloc (.cells #[.int .u64 j,.int .u64 l,.int .u64 m,.int .u64 0] 120)) 47 0 0 0 0 (UA _ _);have s:=((Kept.mk1 (below2 w (.cells #[.int .u64 j,.int .u64 l,.int .u64 m,.int .u64 0] 120) (.cells #[.int .u64 0,.int .u64 0,.int .u64 0,.int .u64 0] 47)) (below2 w (.cells #[.int .u64 j,.int .u64 l,.int .u64 m,.int .u64 0] 120) (.cells #[.int .u64 0,.int .u64 0,.int .u64 0,.int .u64 0] 47)).size).cons X.blk).cons PR.blk;have r:=Holds.below H.out (below2 w (.cells #[.int .u64 j,.int .u64 l,.int .u64 m,.int .u64 0] 120) (.cells #[.int .u64 0,.int .u64 0,.int .u64 0,.int .u64 0] 47)) U;clear PR X;generalize Xs _ _=W0 at s r⊢;refine(kK (some ⟨g,o,none⟩) g o 32 cap p _ (Uv 32) hc HS.out (UW ⟨rfl,r⟩)).mono ?_;rintro e K ⟨v,rfl,i,Q⟩;obtain⟨a,b,c,d,rfl,ha,hb,I,hd,O⟩:=id Q;have J:Hid (Four _ _):=Q;have L:=s.call i;clear O Q i s r;go_wp2_with fail
 have f:=(L.alloc (.cells #[.int .u64 a,.int .u64 b,.int .u64 c,.int .u64 d] 47)).cons (At4.made K 47 a b c d rfl).blk;have z:K.heap.size≠w.heap.size:=V7 L.head.lt;clear L;generalize Xs _ _=W1 at f⊢;generalize K.heap.size=y at f z⊢;generalize M:w.heap.size+1=C at f⊢;have N:Hid (w.heap.size<=C):=by unfold Hid;omega
 generalize V:w.heap.size=q at f N U z⊢;have Y:Hid (w.heap.size=q):=V;clear V M
 go_cut [8] (λs8 wx=>∃k:Nat,s8=.int .u64 k/\k<=1/\Hid (∃t,t<top/\t+top*k=beV p.toList+val j l m 0)/\Kept w q [⟨y,0,a,b,c,d⟩,⟨q,0,j,l,m,0⟩,⟨C,0,0,0,0,0⟩] wx)
 case first =>
  go_region_held3 (λw'=>w'.cell? ⟨y,0,none⟩=some (.int .u64 a)/\w'.cell? ⟨y,1,none⟩=some (.int .u64 b)/\w'.cell? ⟨y,2,none⟩=some (.int .u64 c)/\w'.cell? ⟨y,3,none⟩=some (.int .u64 d)/\w'.cell? ⟨q,0,none⟩=some (.int .u64 j)/\w'.cell? ⟨q,1,none⟩=some (.int .u64 l)/\w'.cell? ⟨q,2,none⟩=some (.int .u64 m)/\w'.cell? ⟨q,3,none⟩=some (.int .u64 0)/\Kept w q [⟨y,0,a,b,c,d⟩,⟨q,0,j,l,m,0⟩,⟨C,0,0,0,0,0⟩] w') (first|(with_reducible exact gV f)|(with_reducible exact gV f.drew)|(with_reducible exact AL (by assumption))|(with_reducible exact BU (by assumption))|(with_reducible exact gV (f.alloc _))|(with_reducible exact gV (f.set4' B (λx hx=>V7 (E x hx)) _ _ _ _))|(with_reducible exact gV (f.alloc _).drew)|(with_reducible exact gV (f.set4' B (λx hx=>V7 (E x hx)) _ _ _ _).drew)|fail) (first|(go_at_call 127;refine(jN _ _ J.out _).mono ?_;rintro e w2 ⟨v,rfl,i,rfl⟩;(try(with_reducible have A:=T.call i;clear T;have T:=A;clear A));(try(first|(with_reducible have T:=(At4.made _ 118 0 0 0 0 rfl).call i)|(with_reducible have T:=(At4.made _ 118 0 0 0 0 rfl).drew.call i));have E:=f.lts;have B:=f.le);have n:=Kept.call (nV (by assumption)) i;clear f;have f:=n;clear n i)|(go_at_call 126;refine(qV _ _ _ _ J.out (Four.mk F.h0 F.h1 F.h2 dC rfl) _).mono ?_;rintro e w2 ⟨v,rfl,i,v2,t,k,rfl,u,D,R⟩;obtain⟨a',b',c',d',rfl,hl,h5,I,h8,O⟩:=id u;have Z:Hid (t<top/\t+top*k=beV p.toList+val j l m 0):=⟨u.lt,R⟩;clear O R u;(try(with_reducible have A:=T.call i;clear T;have T:=A;clear A));(try(first|(with_reducible have T:=(At4.made _ 118 0 0 0 0 rfl).call i)|(with_reducible have T:=(At4.made _ 118 0 0 0 0 rfl).drew.call i));have E:=f.lts;have B:=f.le);have n:=Kept.call (nV (by assumption)) i;clear f;have f:=n;clear n i;(try(obtain⟨h3,h6,h4,hj,tf⟩:=id T;have zt:=T.lt))))
  all_goals (try go_wp2)
  all_goals (have G:Hid (∃t,t<top/\t+top*k=beV p.toList+val j l m 0):=⟨t,Z.out⟩)
  all_goals (go_meet;first|(with_reducible exact⟨k,rfl,D,G,f.alloc _⟩)|(with_reducible exact⟨k,rfl,D,G,(f.alloc _).drew⟩)|(with_reducible exact⟨k,rfl,D,G,f.set4' B (λx hx=>V7 (E x hx)) _ _ _ _⟩)|(with_reducible exact⟨k,rfl,D,G,(f.set4' B (λx hx=>V7 (E x hx)) _ _ _ _).drew⟩)|fail)
 case rest =>
  clear f;obtain⟨k,rfl,D,R,f⟩:=hcut;have B:k=0\/k=1:=oM;rcases B with rfl|rfl
  ·obtain⟨h7,hi,h9,Z,xf⟩:=f.head.at4;obtain⟨A,G,u,E,rf⟩:=f.tail.tail.head.at4;have z1:=f.tail.tail.head.lt;go_wp2;have n:=f.tail.tail.head.at4.self4 a b c d;unfold set4 at n;refine UD (v:=?v0) ?hr0 rfl ?hR0
   case hr0=>simp[results,Tryz.results59,go_sem,n.c0,n.c1,n.c2,n.c3];rfl
   refine⟨_,rfl,?_,U3 ⟨?_,_,rfl,J.out⟩⟩
   ·rw[Y.out];exact aL f.bl N.out _ _ _ _
   ·obtain⟨t,M,h2⟩:=R.out;have:=F.hP;omega
  ·obtain⟨A,G,u,E,rf⟩:=f.tail.tail.head.at4;have z1:=f.tail.tail.head.lt;go_wp2;have n:At4 (set4 wc C (.int .u64 0) (.int .u64 0) (.int .u64 0) (.int .u64 0)) C 0 0 0 0:=f.tail.tail.head.at4.self4 0 0 0 0;unfold set4 at n;refine UD (v:=?v1) ?hr1 rfl ?hR1
   case hr1=>simp[results,Tryz.results59,go_sem,n.c0,n.c1,n.c2,n.c3];rfl
   refine⟨_,rfl,?_,UW ⟨?_,rfl⟩⟩
   ·rw[Y.out];exact aL f.bl N.out _ _ _ _
   ·obtain⟨t,M,h2⟩:=R.out;have:=F.hP;omega
def Arg(w:Uq)(v:Us)(k:Bs):Prop:=∃(p:Option Wt) (n cap:Nat),v=.slice p n cap/\k.size=n/\(n=32->∃g o,p=some ⟨g,o,none⟩/\32<=cap/\g<w.heap.size/\Holds encB w g o k)
theorem Arg.below{w b:Uq}{v:Us}{c:Bs}(h:Arg w v c)(k:kZ w b):Arg b v c:=by
 obtain⟨p,n,cap,rfl,e,m⟩:=h;refine⟨p,n,cap,rfl,e,λf=>?_⟩;obtain⟨g,o,j,i,d,l⟩:=m f;exact⟨g,o,j,i,Uw d k.size,Holds.below l k d⟩
def Args(w:Uq)(q:Option Wt)(n:Nat)(L:Nat->Bs):Prop:=0<n->∃k,q=some (aZ k)/\k<w.heap.size/\∀j,j<n->∃v,w.cell? ⟨k,j,none⟩=some v/\Arg w v (L j)
end
section
theorem u131:(prog.underlying 102).map (·.isRow)=some true:=kR
theorem i131:(prog.info? 102).map (·.size)=some 33:=kR
theorem u5:(prog.underlying 5).map (·.isRow)=some false:=kR
theorem Ou:prog.underlying 102=some (.array 33 5):=kR
theorem Td:prog.underlying 5=some (.int .u8):=kR
theorem cells5:prog.cellsOf 5=1:=kR
theorem QN(g o cap:Nat)(k:33<=cap)(w:Uq):(Instr.sliceAt 23 (.slice (some ⟨g,o,none⟩) 33 cap) (some (iZ 1)) none none).run prog w=.ok (.slice (some ⟨g,o+1,none⟩) 32 (cap-1)) w:=by
 go_simp;omega
theorem NZ(g o cap:Nat)(w:Uq):(Instr.arrayAt 102 (.slice (some ⟨g,o,none⟩) 33 cap)).run prog w=.ok (oZ g o) w:=kR
theorem Eh(g o n cap:Nat)(k:0<n)(w:Uq):(Vk 23 (.slice (some ⟨g,o,none⟩) n cap) (iZ 0)).run prog w=.ok (oZ g o) w:=by
 go_simp
theorem NA(xs:Array Us)(i:Nat)(v:Us)(h:xs[i]? = some v)(w:Uq):(part 5 xs i).run prog w=.ok v w:=by
 go_simp
theorem eqI(xs ys:Array Us)(a b:Nat->Int)(D:Nat)(w:Uq):∀(k:List Nat),(∀i∈k,xs[i]? = some (.int .u8 (a i)))->(∀i∈k,ys[i]? = some (.int .u8 (b i))) ->
 (yA7 (D+1) 5 1 xs ys k).run prog w=.ok (decide (∀i∈k,a i=b i)) w
 | [],_,_=>by
  rw[yA7];simp
 | i :: k,hx,hy=>by
  have e:=eqI xs ys a b D w k (λj c=>hx j (Va _ c)) (λj c=>hy j (Va _ c));have p1:=NA xs (i*1) _ (by rw[XQ];exact hx i Vt) w;have p2:=NA ys (i*1) _ (by rw[XQ];exact hy i Vt) w;have d:=run_equalIn_int (P:=prog) w D 5 .u8 .u8 (a i) (b i) Td;rw[yA7];simp only[Sem.run_bind,p1,p2,d,Vl];by_cases h:a i=b i
  ·simp only[h,beq_self_eq_true,Bool.not_true,Bool.false_eq_true,if_false,e,yAq,true_and]
  ·have f:(a i == b i)=false:=by simpa using h
   simp only[f,Bool.not_false,if_true,Sem.run_pure,yAq,h,false_and,decide_false]
def aA(k:Bs):List Us:=k.toList.map encB
def z33:List Us:=VA 33 (.int .u8 0)
theorem rN(k:Bs)(i:Nat)(h:i<k.size):(aA k)[i]? = some (.int .u8 (ub k[i]!)):=by
 unfold aA;rw[Vy,Vo,UZ h,getElem!_pos k i h];rfl
theorem eqz(c:Bs)(h:c.size=33)(w:Uq):(binOp .eql 102 (.agg (aA c).toArray) (.agg z33.toArray)).run prog w=.ok (.bool (decide (∀i∈VF 33,ub c[i]! = 0))) w:=by
 have b:(prog.info? 5).isSome=true:=kR;obtain⟨d,k⟩:=Vq.1 b;rw[run_eql_struct,run_equalIn_array w 9999 _ _ Ou k,cells5,
  eqI _ _ (λi=>ub c[i]!) (λ_=>0) 9998 w (VF 33) (λi b=>by
   rw[Vf];exact rN c i (by rw[h];exact VZ.1 b)) (λi b=>by
   rw[Vf];unfold z33;rw[List.getElem?_replicate,yCj (VZ.1 b)])]
 rfl
@[reducible] def tJ (bs:Bs):Prop:=∀i∈VF 33,ub bs[i]! = 0
theorem Sj{k:Bs}(h:k.size=33)(b:tJ k)(w:Uq):(binOp .eql 102 (.agg (aA k).toArray) (.agg z33.toArray)).run prog w=.ok (.bool true) w:=by rw[eqz k h,decide_eq_true (show ∀i∈VF 33,ub k[i]! = 0 from b)]
theorem Sk{k:Bs}(h:k.size=33)(b:¬tJ k)(w:Uq):(binOp .eql 102 (.agg (aA k).toArray) (.agg z33.toArray)).run prog w=.ok (.bool false) w:=by rw[eqz k h,decide_eq_false (show ¬ ∀i∈VF 33,ub k[i]! = 0 from b)]
theorem aB{k:Bs}(h:k.size=33):(aA k).length=33:=by unfold aA;rw[UP,UJ,h]
theorem Eb{k:Bs}{w:Uq}{g o:Nat}(c:Holds encB w g o k):w.rangeAt g o (aA k):=λj v hv=>by
 have b:j<k.size:=by
  have:=(UE.1 hv).1;unfold aA at this;rwa[UP,UJ]at this
 rw[rN k j b]at hv;rw[(c j b).1];exact hv
def uM(k:Bs):Bs:=k.extract 1 33
theorem nR{k:Bs}(h:k.size=33):(uM k).size=32:=by unfold uM;rw[Xw,h];rfl
theorem tl33_holds{k:Bs}{w:Uq}{g o:Nat}(h:k.size=33)(b:Holds encB w g o k):Holds encB w g (o+1) (uM k):=
 Holds.part b (by rw[nR h,h];decide) (λj c=>by
  rw[nR h]at c;unfold uM;rw[getElem!_pos _ j (by rw[Xw,h];omega),getElem!_pos _ (1+j) (by rw[h];omega),Array.getElem_extract])
variable {P:Nat}[NeZero P]
theorem Kl(C:Fld P){g o cap:Nat}{k:Bs}(d:k.size=32)(l:32<=cap){x:Fin P}(hx:beV k.toList=x.val){w:Uq}(f:g<w.heap.size)(j:Holds encB w g o k):
 UG prog 59 #[gv0,.slice (some ⟨g,o,none⟩) 32 cap] w (rZ w λe w'=>e=.tuple #[fv x,.bool true]):=
 (yW 4294968273 0 0 P g o cap k C.gap w d l f j).mono (by
  rintro e w' ⟨v,rfl,c,⟨i,m,rfl,b⟩|⟨i,rfl⟩⟩
  ·refine⟨_,rfl,c,?_⟩;rw[hx]at b;rw[b.nv]
  ·have:=x.isLt;omega)
theorem Kn(C:Fld P){g o cap:Nat}{k:Bs}(d:k.size=32)(j:32<=cap)(hx:¬beV k.toList<P){w:Uq}(f:g<w.heap.size)(i:Holds encB w g o k):
 UG prog 59 #[gv0,.slice (some ⟨g,o,none⟩) 32 cap] w (rZ w λe w'=>e=.tuple #[fv (0:Fin P),.bool false]):=
 (yW 4294968273 0 0 P g o cap k C.gap w d j f i).mono (by
  rintro e w' ⟨v,rfl,c,⟨b,m,rfl,l⟩|⟨b,rfl⟩⟩
  ·exact absurd b hx
  ·refine⟨_,rfl,c,?_⟩;rw[<-lI])
def rdx(P:Nat)[NeZero P](k:Bs):Fin P:=Xg P (beV (uM k).toList)
def rd(P:Nat)[NeZero P](k:Bs):Option (Fin P × Fin P):=
 if k.size=33 then
  if tJ k then some (0,0) else
  if ub k[0]! = 2\/ub k[0]! = 3 then
   if beV (uM k).toList<P then
    (rt (rdx P k*rdx P k*rdx P k+7)).map (λy=>(rdx P k,if ub k[0]! = 3 then 0-y else y))
   else none
  else none
 else none
def rdV:Option (Fin P × Fin P)->Us
 | none=>.tuple #[pv (0:Fin P) 0,.bool false]
 | some p=>.tuple #[pv p.1 p.2,.bool true]
end
section
variable {P:Nat}[NeZero P]{N:Nat}
theorem OP(C:Fld P)(q:Option Wt)(n cap:Nat)(x:Fin P)(w:Uq)(p:¬n=33):UG prog 193 #[(.slice q n cap)] w (rZ w λe w'=>e=(.tuple #[pv (0:Fin P) 0,.bool false])):=by
 have d:∀w,(binOp .neq 3 (iZ n) (iZ 33)).run prog w=.ok (.bool true) w:=λw=>by
  have h:¬(n:Int)=33:=oM;go_simp
 go_enter func193,ntmps193;refine Hx (v0:=(.slice q n cap)) (n:=54) kR kR kR ?_;intro a0 c j;have b:=RG.St.begin w;have i:RG.M w w.heap.size [] 54 [] [] [(0,.v (.slice q n cap))] a0 _:=⟨b,c,⟨j,yCl⟩⟩
 repeat refine Uy ?_
 refine i.T [.m 0,.x (.bool false)] [(0,RG.z 8)] [] [RG.z 8] [0,2,3] ⟨mk 0 93,st,yCl⟩ ?_;intro l u o g;repeat refine Uy ?_
 refine g.U [.x (.slice q n cap),.x (iZ n),.x (.bool true)] [2,3,9] ⟨st,fQ rfl 7 (.v (.slice q n cap)) (iZ n) rfl sx (λa w=>kR) (λμ w=>kR),aP rfl .neq 3 3 8 (iZ n) (iZ 33) (.bool true) rfl rfl sx (λw=>kR) d,yCl⟩ ?_;intro a2 t f;repeat refine Uy ?_
 refine VD f.ev ?_;repeat refine Uy ?_
 refine f.T [.x (pv (0:Fin P) (0:Fin P)),.u 0,.x (.bool false)] [] [(0,1,ws (0:Fin P)++(ws (0:Fin P)))] [ws (0:Fin P)++(ws (0:Fin P))] [2,3] ⟨se (gI (P:=P)),RG.pt i109,st,yCl⟩ ?_;intro m r k;refine We ?_;refine UD (v:=(.tuple #[pv (0:Fin P) (0:Fin P),.bool false])) (cQ k.st 2 3 93 rfl 0 _ rfl (k.at (s:=(.p 0 0))) _ (k.at (s:=(.v (.bool false)))) gU i109) k.sl.defers ?_;exact⟨_,rfl,k.st.bel.below,rfl⟩
abbrev v33(g o cap:Nat):Us:=.slice (some ⟨g,o,none⟩) 33 cap
theorem Ty(C:Fld P)(g o cap:Nat)(k:Bs)(w:Uq)(p:k.size=33)(Y:33<=cap)(d:g<w.heap.size)(H:Holds encB w g o k):UG prog 193 #[v33 g o cap] w (rZ w λe w'=>e=rdV (rd P k)):=by
 have G:=Eb H;have b:w.cell? ⟨g,o,none⟩=some (.int .u8 (ub k[0]!)):=by
  have:=(H 0 (by rw[p];decide)).1;rw[XA]at this;exact this
 go_enter func193,ntmps193;refine Hx (v0:=(v33 g o cap)) (n:=54) kR kR kR ?_;intro a0 N f0;have M:=RG.St.begin w;have M0:RG.M w w.heap.size [] 54 [] [] [(0,.v (v33 g o cap))] a0 _:=⟨M,N,⟨f0,yCl⟩⟩
 repeat refine Uy ?_
 refine M0.T [.m 0,.x (.bool false)] [(0,RG.z 8)] [] [RG.z 8] [0,2,3] ⟨mk 0 93,st,yCl⟩ ?_;intro j1 a1 w1 M1;repeat refine Uy ?_
 refine M1.U [.x (v33 g o cap),.x (iZ 33),.x (.bool false)] [0,2,3,9] ⟨st,fQ rfl 7 (.v (v33 g o cap)) (iZ 33) rfl sx (λa w=>kR) (λμ w=>kR),st,yCl⟩ ?_;intro a2 w2 K;repeat refine Uy ?_
 refine VH K.ev ?_;refine WR ?_;repeat refine Uy ?_
 unfold rd;rw[yCj p];by_cases J:tJ k
 ·rw[yCj J];refine K.U [.x (v33 g o cap),.x (oZ g o),.x (.agg (aA k).toArray),.x (.agg z33.toArray),.x (.bool true)] [2,3,15] ⟨st,CC rfl 102 11 (v33 g o cap) (oZ g o) rfl rfl sx (NZ g o cap),eH rfl g o d UX 102 12 rfl (aA k) rfl sx G u131 (by rw[aB p];exact i131),st,aQ rfl .eql 102 102 13 14 (.agg (aA k).toArray) (.agg z33.toArray) (.bool true) rfl rfl sx sx (λw=>kR) (Sj p J),yCl⟩ ?_;intro a3 w3 B;repeat refine Uy ?_
  refine VD B.ev ?_;repeat refine Uy ?_
  refine B.T [.x (pv (0:Fin P) (0:Fin P)),.u 0,.x (.bool true)] [] [(0,1,ws (0:Fin P)++(ws (0:Fin P)))] [ws (0:Fin P)++(ws (0:Fin P))] [2,3] ⟨se (gI (P:=P)),RG.pt i109,st,yCl⟩ ?_;intro Z U f;refine We ?_;refine UD (v:=(.tuple #[pv (0:Fin P) (0:Fin P),.bool true])) (cQ f.st 2 3 93 rfl 0 _ rfl (f.at (s:=(.p 0 0))) _ (f.at (s:=(.v (.bool true)))) gU i109) f.sl.defers ?_;exact⟨_,rfl,f.st.bel.below,rfl⟩
 rw[yCk J];refine K.U [.x (v33 g o cap),.x (oZ g o),.x (.agg (aA k).toArray),.x (.agg z33.toArray),.x (.bool false)] [0,2,3,15] ⟨st,CC rfl 102 11 (v33 g o cap) (oZ g o) rfl rfl sx (NZ g o cap),eH rfl g o d UX 102 12 rfl (aA k) rfl sx G u131 (by rw[aB p];exact i131),st,aQ rfl .eql 102 102 13 14 (.agg (aA k).toArray) (.agg z33.toArray) (.bool false) rfl rfl sx sx (λw=>kR) (Sk p J),yCl⟩ ?_;intro a3 w3 B;repeat refine Uy ?_
 refine VH B.ev ?_;refine WR ?_;repeat refine Uy ?_
 by_cases j:ub k[0]! = 2\/ub k[0]! = 3
 rotate_left
 ·rw[yCk j];generalize ub k[0]! = m at b j;have X:¬m=2:=λh=>j (.inl h)
  have I:¬m=3:=λh=>j (.inr h)
  have i:∀w,(binOp .neq 5 (.int .u8 m) (.int .u8 2)).run prog w=.ok (.bool true) w:=λw=>by
   go_simp
  have c:∀w,(binOp .neq 5 (.int .u8 m) (.int .u8 3)).run prog w=.ok (.bool true) w:=λw=>by
   go_simp
  refine B.U [.x (v33 g o cap),.x (oZ g o),.x (.int .u8 m),.x (.bool true),.x (.bool true),.x (v33 g o cap),.x (oZ g o),.x (.int .u8 m),.x (.bool true),.x (.bool true)] [2,3,26] ⟨st,eM rfl 23 17 (iZ 0) rfl (.v (v33 g o cap)) sx (λμ w=>Eh g o 33 cap dC w),bM rfl g o d UX 5 18 rfl (.int .u8 m) rfl sx b u5,aP rfl .neq 5 5 19 (.int .u8 m) (.int .u8 2) (.bool true) rfl rfl sx (λw=>kR) i,st,st,eM rfl 23 22 (iZ 0) rfl (.v (v33 g o cap)) sx (λμ w=>Eh g o 33 cap dC w),bM rfl g o d UX 5 23 rfl (.int .u8 m) rfl sx b u5,aP rfl .neq 5 5 24 (.int .u8 m) (.int .u8 3) (.bool true) rfl rfl sx (λw=>kR) c,st,yCl⟩ ?_;intro Z U f;repeat refine Uy ?_
  refine VD f.ev ?_;repeat refine Uy ?_
  refine f.T [.x (pv (0:Fin P) (0:Fin P)),.u 0,.x (.bool false)] [] [(0,1,ws (0:Fin P)++(ws (0:Fin P)))] [ws (0:Fin P)++(ws (0:Fin P))] [2,3] ⟨se (gI (P:=P)),RG.pt i109,st,yCl⟩ ?_;intro Q R r;refine We ?_;refine UD (v:=(.tuple #[pv (0:Fin P) (0:Fin P),.bool false])) (cQ r.st 2 3 93 rfl 0 _ rfl (r.at (s:=(.p 0 0))) _ (r.at (s:=(.v (.bool false)))) gU i109) r.sl.defers ?_;exact⟨_,rfl,r.st.bel.below,rfl⟩
 rw[yCj j];rcases j with j|j
 case' inl=>refine B.u [.x 17 [] (v33 g o cap),.x 18 [(17,0)] (oZ g o),.x 19 [(18,1)] (.int .u8 2),.x 20 [(19,2)] (.bool false),.x 21 [(20,3)] (.bool false),⟨some 22,[],.v WO,.pass⟩,⟨some 23,[],.v WO,.pass⟩,⟨some 24,[],.v WO,.pass⟩,⟨some 25,[],.v WO,.pass⟩,.x 26 [(21,4),(25,8)] (.bool false)] [(0,.v (v33 g o cap)),(2,.p 0 0),(3,.v (.bool false)),(26,.v (.bool false))] ⟨st,eM rfl 23 17 (iZ 0) rfl (.v (v33 g o cap)) sx (λμ w=>Eh g o 33 cap dC w),bM rfl g o d UX 5 18 rfl (.int .u8 2) rfl sx (b.trans (by rw[j])) u5,st,st,dD rfl rfl,dD rfl rfl,dD rfl rfl,dD rfl rfl,st,yCl⟩ ?_
 case' inr=>refine B.U [.x (v33 g o cap),.x (oZ g o),.x (.int .u8 3),.x (.bool true),.x (.bool true),.x (v33 g o cap),.x (oZ g o),.x (.int .u8 3),.x (.bool false),.x (.bool false)] [0,2,3,26] ⟨st,eM rfl 23 17 (iZ 0) rfl (.v (v33 g o cap)) sx (λμ w=>Eh g o 33 cap dC w),bM rfl g o d UX 5 18 rfl (.int .u8 3) rfl sx (b.trans (by rw[j])) u5,st,st,st,eM rfl 23 22 (iZ 0) rfl (.v (v33 g o cap)) sx (λμ w=>Eh g o 33 cap dC w),bM rfl g o d UX 5 23 rfl (.int .u8 3) rfl sx (b.trans (by rw[j])) u5,st,st,yCl⟩ ?_
 all_goals
  intro Z U f;repeat refine Uy ?_
  refine VH f.ev ?_;refine WR ?_;repeat refine Uy ?_
  by_cases hx:beV (uM k).toList<P
  rotate_left
  ·rw[yCk hx];have z:∀w',BelX w.heap.size [] w w'->UG prog 59 #[gv0,.slice (some ⟨g,o+1,none⟩) 32 (cap-1)] w' (Ret λe A=>kZ w' A/\e=.tuple #[fv (0:Fin P),.bool false]):=λw' E=>Kn C (nR p) oM hx (Uw d E.size) (Holds.below (tl33_holds p H) E.below d)
   refine f.D [.c gv0,.x (v33 g o cap),.x (.slice (some ⟨g,o+1,none⟩) 32 (cap-1)),.c (.tuple #[fv (0:Fin P),.bool false]),.x (.tuple #[fv (0:Fin P),.bool false]),.x (fv (0:Fin P)),.x (.bool false),.m 1,.u 1,.x (.bool false)] [(7,RG.z 4)] [(1,8,ws (0:Fin P))] [RG.z 8,ws (0:Fin P)] [2,3,5] ⟨cl bO,st,uF rfl 23 30 (iZ 1) (v33 g o cap) (.slice (some ⟨g,o+1,none⟩) 32 (cap-1)) rfl rfl sx (QN g o cap Y),kH rfl 59 29 31 gv0 (.slice (some ⟨g,o+1,none⟩) 32 (cap-1)) (.tuple #[fv (0:Fin P),.bool false]) rfl (λa w=>kR) sx sx z,st,st,st,mk 1 47,RG.pt i85,st,yCl⟩ ?_;intro j5 Q R r;repeat refine Uy ?_
   refine r.U [.x (.bool false),.x (.bool true)] [2,3,36] ⟨st,st,yCl⟩ ?_;intro a6 w6 D;repeat refine Uy ?_
   refine VD D.ev ?_;repeat refine Uy ?_
   refine D.T [.x (pv (0:Fin P) (0:Fin P)),.u 0,.x (.bool false)] [] [(0,1,ws (0:Fin P)++(ws (0:Fin P)))] [ws (0:Fin P)++(ws (0:Fin P)),ws (0:Fin P)] [2,3] ⟨se (gI (P:=P)),RG.pt i109,st,yCl⟩ ?_;intro V w7 l;refine We ?_;refine UD (v:=(.tuple #[pv (0:Fin P) (0:Fin P),.bool false])) (cQ l.st 2 3 93 rfl 0 _ rfl (l.at (s:=(.p 0 0))) _ (l.at (s:=(.v (.bool false)))) gU i109) l.sl.defers ?_;exact⟨_,rfl,l.st.bel.below,rfl⟩
  rw[yCj hx];have F:beV (uM k).toList=(rdx P k).val:=(UR hx).symm;generalize rdx P k=x at F;have z:∀w',BelX w.heap.size [] w w'->UG prog 59 #[gv0,.slice (some ⟨g,o+1,none⟩) 32 (cap-1)] w' (Ret λe A=>kZ w' A/\e=.tuple #[fv x,.bool true]):=λw' E=>Kl C (nR p) oM F (Uw d E.size) (Holds.below (tl33_holds p H) E.below d)
  refine f.D [.c gv0,.x (v33 g o cap),.x (.slice (some ⟨g,o+1,none⟩) 32 (cap-1)),.c (.tuple #[fv x,.bool true]),.x (.tuple #[fv x,.bool true]),.x (fv x),.x (.bool true),.m 1,.u 1,.x (.bool true)] [(7,RG.z 4)] [(1,8,ws x)] [RG.z 8,ws x] [0,2,3,4,5] ⟨cl bO,st,uF rfl 23 30 (iZ 1) (v33 g o cap) (.slice (some ⟨g,o+1,none⟩) 32 (cap-1)) rfl rfl sx (QN g o cap Y),kH rfl 59 29 31 gv0 (.slice (some ⟨g,o+1,none⟩) 32 (cap-1)) (.tuple #[fv x,.bool true]) rfl (λa w=>kR) sx sx z,st,st,st,mk 1 47,RG.pt i85,st,yCl⟩ ?_;intro j5 Q R r;repeat refine Uy ?_
  refine r.U [.x (.bool true),.x (.bool false)] [0,2,3,4,5,36] ⟨st,st,yCl⟩ ?_;intro a6 w6 D;repeat refine Uy ?_
  refine VH D.ev ?_;refine WR ?_;repeat refine Uy ?_
  cases T:rt (x*x*x+7) with
  | none =>
   refine D.T [.x (fv x),.c (.tuple #[pv (0:Fin P) (0:Fin P),.bool false]),.x (.tuple #[pv (0:Fin P) (0:Fin P),.bool false]),.x (pv (0:Fin P) (0:Fin P)),.x (.bool false),.m 2,.u 2,.x (.bool false)] [(5,RG.z 8)] [(2,6,ws (0:Fin P)++(ws (0:Fin P)))] [RG.z 8,ws x,ws (0:Fin P)++(ws (0:Fin P))] [2,3,5,6] ⟨ld u85 i85,yL rfl 115 39 (fv x) (.tuple #[pv (0:Fin P) (0:Fin P),.bool false]) rfl (λa w=>kR) sx (Ap C x T),st,st,st,mk 2 93,RG.pt i109,st,yCl⟩ ?_;intro j7 V w7 l;repeat refine Uy ?_
   refine l.u [.x 43 [] (.bool false),.x 44 [(43,0)] (.bool false),⟨some 45,[],.v WO,.pass⟩,⟨some 46,[],.v WO,.pass⟩,⟨some 47,[],.v WO,.pass⟩,⟨some 48,[],.v WO,.pass⟩,.x 49 [(44,1),(48,5)] (.bool false)] [(2,.p 0 0),(3,.v (.bool false)),(5,.v (.bool false)),(6,.p 2 0),(49,.v (.bool false))] ⟨st,st,dD rfl rfl,dD rfl rfl,dD rfl rfl,dD rfl rfl,st,yCl⟩ ?_;intro O w8 u;repeat refine Uy ?_
   refine VH u.ev ?_;refine WR ?_;repeat refine Uy ?_
   refine u.T [.x (pv (0:Fin P) (0:Fin P)),.x (.bool false),.u 0,.x (.bool false)] [] [(0,2,ws (0:Fin P)++(ws (0:Fin P)))] [ws (0:Fin P)++(ws (0:Fin P)),ws x,ws (0:Fin P)++(ws (0:Fin P))] [2,3] ⟨ld gU i109,st,RG.pt i109,st,yCl⟩ ?_;intro W S c;refine We ?_;refine UD (v:=(.tuple #[pv (0:Fin P) (0:Fin P),.bool false])) (cQ c.st 2 3 93 rfl 0 _ rfl (c.at (s:=(.p 0 0))) _ (c.at (s:=(.v (.bool false)))) gU i109) c.sl.defers ?_;exact⟨_,rfl,c.st.bel.below,rfl⟩
  | some y =>
   refine D.T [.x (fv x),.c (.tuple #[pv x y,.bool true]),.x (.tuple #[pv x y,.bool true]),.x (pv x y),.x (.bool true),.m 2,.u 2,.x (.bool true)] [(5,RG.z 8)] [(2,6,ws x++(ws y))] [RG.z 8,ws x,ws x++(ws y)] [0,2,3,5,6] ⟨ld u85 i85,yL rfl 115 39 (fv x) (.tuple #[pv x y,.bool true]) rfl (λa w=>kR) sx (Ao C x y T),st,st,st,mk 2 93,RG.pt i109,st,yCl⟩ ?_;intro j7 V w7 l;repeat refine Uy ?_
   rw[Yv];by_cases I:ub k[0]! = 3
   ·rw[yCj I];generalize L:0-y=t;have q:Gives 227 #[pv x y] (pv x t):=L ▸ OV C x y;refine l.U [.x (.bool true),.x (.bool true),.x (v33 g o cap),.x (oZ g o),.x (.int .u8 3),.x (.bool true),.x (.bool true)] [2,3,5,6,49] ⟨st,st,st,eM rfl 23 45 (iZ 0) rfl (.v (v33 g o cap)) sx (λμ w=>Eh g o 33 cap dC w),bM rfl g o d UX 5 46 rfl (.int .u8 3) rfl sx (b.trans (by rw[I])) u5,st,st,yCl⟩ ?_;intro O w8 u;repeat refine Uy ?_
    refine VD u.ev ?_;repeat refine Uy ?_
    refine u.T [.x (pv x y),.c (pv x t),.u 2] [] [(2,2,ws x++(ws t))] [RG.z 8,ws x,ws x++(ws t)] [2,3,5,6] ⟨ld gU i109,cl q,RG.pt i109,yCl⟩ ?_;intro W S c;repeat refine Uy ?_
    refine c.T [.x (pv x t),.x (.bool true),.u 0,.x (.bool true)] [] [(0,2,ws x++(ws t))] [ws x++(ws t),ws x,ws x++(ws t)] [2,3] ⟨ld gU i109,st,RG.pt i109,st,yCl⟩ ?_;intro h0 h1 i;refine We ?_;refine UD (v:=(.tuple #[pv x t,.bool true])) (cQ i.st 2 3 93 rfl 0 _ rfl (i.at (s:=(.p 0 0))) _ (i.at (s:=(.v (.bool true)))) gU i109) i.sl.defers ?_;exact⟨_,rfl,i.st.bel.below,rfl⟩
   ·rw[yCk I];have X:ub k[0]! = 2:=oM;refine l.U [.x (.bool true),.x (.bool true),.x (v33 g o cap),.x (oZ g o),.x (.int .u8 2),.x (.bool false),.x (.bool false)] [2,3,5,6,49] ⟨st,st,st,eM rfl 23 45 (iZ 0) rfl (.v (v33 g o cap)) sx (λμ w=>Eh g o 33 cap dC w),bM rfl g o d UX 5 46 rfl (.int .u8 2) rfl sx (b.trans (by rw[X])) u5,st,st,yCl⟩ ?_;intro O w8 u;repeat refine Uy ?_
    refine VH u.ev ?_;refine WR ?_;repeat refine Uy ?_
    refine u.T [.x (pv x y),.x (.bool true),.u 0,.x (.bool true)] [] [(0,2,ws x++(ws y))] [ws x++(ws y),ws x,ws x++(ws y)] [2,3] ⟨ld gU i109,st,RG.pt i109,st,yCl⟩ ?_;intro W S c;refine We ?_;refine UD (v:=(.tuple #[pv x y,.bool true])) (cQ c.st 2 3 93 rfl 0 _ rfl (c.at (s:=(.p 0 0))) _ (c.at (s:=(.v (.bool true)))) gU i109) c.sl.defers ?_;exact⟨_,rfl,c.st.bel.below,rfl⟩
def Arg33(w:Uq)(v:Us)(k:Bs):Prop:=∃(p:Option Wt) (n cap:Nat),v=.slice p n cap/\k.size=n/\(n=33->∃g o,p=some ⟨g,o,none⟩/\33<=cap/\g<w.heap.size/\Holds encB w g o k)
theorem Arg33.below{w b:Uq}{v:Us}{c:Bs}(h:Arg33 w v c)(k:kZ w b):Arg33 b v c:=by
 obtain⟨p,n,cap,rfl,e,m⟩:=h;refine⟨p,n,cap,rfl,e,λf=>?_⟩;obtain⟨g,o,j,i,d,l⟩:=m f;exact⟨g,o,j,i,Uw d k.size,Holds.below l k d⟩
theorem mZ(C:Fld P)(v:Us)(b:Bs)(w:Uq)(hv:Arg33 w v b):UG prog 193 #[v] w (rZ w λe w'=>e=rdV (rd P b)):=by
 obtain⟨p,n,cap,rfl,c,j⟩:=hv;by_cases k:n=33
 ·subst k;obtain⟨g,o,rfl,i,d,f⟩:=j rfl;exact Ty C g o cap b w c i d f
 ·unfold rd;rw[yCk (by rw[c];exact k)];exact OP C p n cap 0 w k
def bx(n:Nat):Bs:=be32 (n%18446744073709551616) (n/18446744073709551616%18446744073709551616) (n/340282366920938463463374607431768211456%18446744073709551616) (n/6277101735386680763835789423207666416102355444464034512896%18446744073709551616)
theorem eE(n:Nat):(bx n).size=32:=by unfold bx;exact Al _ _ _ _
def mark(n:Nat):UInt8:=if n%2=1 then 3 else 2
def tD(x y:Fin P):Bs:=if x=0/\y=0 then UI 33 0 else #[mark y.val]++bx x.val
theorem Gf(C:Fld P)(x:Fin P)(w:Uq):UG prog 117 #[fv x] w (rZ w λe w'=>∃g,e=sZ g 32 32/\w.heap.size<=g/\Holds encB w' g 0 (bx x.val)):=
 (As _ _ w (C.four x)).mono (by
  rintro e w' ⟨v,rfl,i,g,a,b,c,d,rfl,l,k,j⟩;refine⟨_,rfl,i,g,rfl,l,?_⟩;have f:fv x=.agg #[uZ ((x.val%18446744073709551616:Nat):Int),uZ ((x.val/18446744073709551616%18446744073709551616:Nat):Int),uZ ((x.val/340282366920938463463374607431768211456%18446744073709551616:Nat):Int),uZ ((x.val/6277101735386680763835789423207666416102355444464034512896%18446744073709551616:Nat):Int)]:=rfl;rw[f]at k;simp only[Value.agg.injEq,Array.mk.injEq,yB6.injEq,VY.injEq,true_and,and_true,Int.ofNat_inj]at k;obtain⟨rfl,rfl,rfl,rfl⟩:=k;exact j)
theorem Oc(C:Fld P)(y:Fin P):Gives 116 #[fv y] (.bool (decide (y.val%2=1))):=λw =>
 (F6 _ _ (C.four y) w).mono (by rintro e w' ⟨v,rfl,k,rfl⟩;exact⟨_,rfl,k,rfl⟩)
theorem DL:(prog.info? 5).map (λi=>(i.zero,i.size,i.bytes))=some (some (.int .u8 0),1,1):=kR
theorem Hz:prog.underlying 23=some (.slice 5):=kR
def mL(w:Uq)(T:Bs)(e:Us)(w':Uq):Prop:=∃g cap,e=sZ g 33 cap/\33<=cap/\w.heap.size<=g/\g<w'.heap.size/\Holds encB w' g 0 T
theorem TM(w:Uq):(XB 23 (iZ 33) (iZ 33)).run prog w=.ok (sZ w.heap.size 33 33) (w.alloc (.cells (madeCells #[.int .u8 0] 33) 5)):=
 yBE (P:=prog) 23 5 (.int .u8 0) 1 Hz DL rfl .i64 .i64 33 dC dC w
theorem Pl(w:Uq)(o:Obj):Holds encB ((w.alloc o).alloc (.cells (madeCells #[.int .u8 0] 33) 5)) (w.heap.size+1) 0 (UI 33 0):=by
 have h:=Holds.made (enc:=encB) (w.alloc o) 5 33 (0:UInt8);rw[UA]at h;exact h
omit [NeZero P] in
theorem kT(x y:Fin P):pv x y=.agg #[uZ ((x.val%18446744073709551616:Nat):Int),uZ ((x.val/18446744073709551616%18446744073709551616:Nat):Int),uZ ((x.val/340282366920938463463374607431768211456%18446744073709551616:Nat):Int),uZ ((x.val/6277101735386680763835789423207666416102355444464034512896%18446744073709551616:Nat):Int),uZ ((y.val%18446744073709551616:Nat):Int),uZ ((y.val/18446744073709551616%18446744073709551616:Nat):Int),uZ ((y.val/340282366920938463463374607431768211456%18446744073709551616:Nat):Int),uZ ((y.val/6277101735386680763835789423207666416102355444464034512896%18446744073709551616:Nat):Int)]:=rfl
theorem D8(C:Fld P)(x y:Fin P)(g:x=0/\y=0)(w:Uq):UG prog 52 #[pv x y] w (rZ w λe w'=>mL w (UI 33 0) e w'):=by
 have k:=JB C (x:=x) (y:=y) (z:=0) (t:=0) g;rw[<-gI,kT]at k;rw[kT];generalize ((x.val%18446744073709551616:Nat):Int)=a at k⊢;generalize ((x.val/18446744073709551616%18446744073709551616:Nat):Int)=b at k⊢;generalize ((x.val/340282366920938463463374607431768211456%18446744073709551616:Nat):Int)=c at k⊢;generalize ((x.val/6277101735386680763835789423207666416102355444464034512896%18446744073709551616:Nat):Int)=d at k⊢;generalize ((y.val%18446744073709551616:Nat):Int)=p at k⊢;generalize ((y.val/18446744073709551616%18446744073709551616:Nat):Int)=q at k⊢;generalize ((y.val/340282366920938463463374607431768211456%18446744073709551616:Nat):Int)=r at k⊢;generalize ((y.val/6277101735386680763835789423207666416102355444464034512896%18446744073709551616:Nat):Int)=s at k⊢;have j:=TM;generalize i:(UI 33 0:Bs)=T;go_enter func52,ntmps52;go_wp2;go_ret;have f:=Pl w (.cells #[uZ a,uZ b,uZ c,uZ d,uZ p,uZ q,uZ r,uZ s] 93);rw[i]at f;exact⟨_,rfl,below2 _ _ _,_,33,rfl,oM,oM,by simp,f⟩
theorem Jp(w:Uq)(k g m:Nat)(B:Bs)(l:B.size=32)(r:w.cell? ⟨k,0,none⟩=some (.int .u8 m))(o:Holds encB w g 0 B)(q:m<256:=by decide):
 ∃(w':Uq) (cap:Nat),(Vr #[23,23] 23 #[sZ k 1 1,sZ g 32 32]).run prog w=.ok (sZ w.heap.size 33 cap) w'/\kZ w w'/\33<=cap/\w.heap.size<w'.heap.size/\Holds encB w' w.heap.size 0 (#[UL m]++B):=by
 obtain⟨i,s,d⟩:=Ux.1 DL;simp only[V5.injEq]at d;obtain⟨p,f,n⟩:=d;have e:=run_append_grow (P:=prog) w 23 23 5 i (.int .u8 0) Hz s p (aZ k) 1 1 [.int .u8 m] (by rw[f];rfl) (λj v b=>by
  cases j with
  | zero =>
   obtain rfl:VY .u8 m=v:=by simpa using b
   rw[yBH];exact r
  | succ j=>simp at b) ⟨g,0,none⟩ 32 32 (B.toList.map encB) (by rw[f,UP,UJ,l]) (λj v b=>by
  have c:j<B.size:=by
   have:=(UE.1 b).1;rwa[UP,UJ]at this
  rw[yBH,(o j c).1];rw[Vy,Vo,UZ c]at b;rw[getElem!_pos B j c];exact b) dC dC (by rw[n];decide)
 refine⟨_,_,e,?_,?_,?_,?_⟩
 ·exact(UQ _ w).drew.trans (aC w.drew _)
 ·exact grownCap_ge w (1+32) 1 5
 ·show w.drew.heap.size<(w.drew.alloc _).heap.size;rw[UA];exact YG _
 ·intro j b;have c:(#[UL m]++B).size=33:=by rw[VM,l];rfl
  refine⟨?_,Wu w.drew _ _ _⟩;show(w.drew.alloc _).cell? ⟨w.drew.heap.size,0+j,none⟩=_;rw[UC,Vb,getElem!_pos _ j b,XW (by
   rw[VM,VB,VB,UP,UJ];show j<1+B.size;omega)]
  cases j with
  | zero =>
   rw[XW (by simp),Z1 (by simp)];show some (VY .u8 m)=some (encB (UL m));unfold encB;rw[mQ,UR q]
  | succ i =>
   rw[YC (by simp),ZW (by simp),Vf,Vy,Vo];show Option.map encB B[i]? = some (encB B[i]);rw[UZ oM];rfl
theorem NF(w:Uq)(a b c d p q r s:Nat):Kept w w.heap.size [⟨w.heap.size,0,a,b,c,d⟩,⟨w.heap.size,4,p,q,r,s⟩] (w.alloc (.cells #[uZ a,uZ b,uZ c,uZ d,uZ p,uZ q,uZ r,uZ s] 93)):=by
 have F:=At8.made w 93 a b c d p q r s rfl;refine((Kept.mk1 (aC w _) (aC w _).size).cons ?_).cons ?_
 ·exact⟨F.c4,F.c5,F.c6,F.c7,F.fz⟩
 ·exact⟨F.c0,F.c1,F.c2,F.c3,F.fz⟩
theorem G5(C:Fld P)(x y:Fin P)(R:¬(x=0/\y=0))(ho:y.val%2=1)(w:Uq):UG prog 52 #[pv x y] w (rZ w λe w'=>mL w (#[3]++bx x.val) e w'):=by
 have k:=DV C (x:=x) (y:=y) (z:=0) (t:=0) R;rw[<-gI,kT]at k;rw[kT];have i:∀w,UG prog 116 #[.agg #[uZ ((y.val%18446744073709551616:Nat):Int),uZ ((y.val/18446744073709551616%18446744073709551616:Nat):Int),uZ ((y.val/340282366920938463463374607431768211456%18446744073709551616:Nat):Int),uZ ((y.val/6277101735386680763835789423207666416102355444464034512896%18446744073709551616:Nat):Int)]] w (rZ w λe w'=>e=.bool true):=λw=>by
  have h:=Oc C y w;rw[decide_eq_true ho]at h;exact h
 have f:∀w,UG prog 117 #[.agg #[uZ ((x.val%18446744073709551616:Nat):Int),uZ ((x.val/18446744073709551616%18446744073709551616:Nat):Int),uZ ((x.val/340282366920938463463374607431768211456%18446744073709551616:Nat):Int),uZ ((x.val/6277101735386680763835789423207666416102355444464034512896%18446744073709551616:Nat):Int)]] w (rZ w λe w'=>∃g,e=sZ g 32 32/\w.heap.size<=g/\Holds encB w' g 0 (bx x.val)):=Gf C x;have n:=eE x.val;generalize bx x.val=B at f n⊢;generalize x.val%18446744073709551616=a at k i f⊢;generalize x.val/18446744073709551616%18446744073709551616=b at k i f⊢;generalize x.val/340282366920938463463374607431768211456%18446744073709551616=c at k i f⊢;generalize x.val/6277101735386680763835789423207666416102355444464034512896%18446744073709551616=d at k i f⊢;generalize y.val%18446744073709551616=p at k i f⊢;generalize y.val/18446744073709551616%18446744073709551616=q at k i f⊢;generalize y.val/340282366920938463463374607431768211456%18446744073709551616=r at k i f⊢;generalize y.val/6277101735386680763835789423207666416102355444464034512896%18446744073709551616=s at k i f⊢;have W:=mk1 (k);go_enter func52,ntmps52;go_wp2_with fail
 have l:=NF w a b c d p q r s;generalize I:w.heap.size=X at l⊢;refine(i _).mono ?_;rintro e u ⟨v,rfl,H,rfl⟩;replace l:=l.call H;obtain⟨L,O,N,M,T⟩:=l.head;have zx:=l.head.lt;go_wp2_with fail
 refine(f _).mono ?_;rintro e J ⟨v,rfl,j,g,rfl,V,Q⟩;have S:J.cell? ⟨u.heap.size,0,none⟩=some (.int .u8 3):=by
  rw[j.cell (p:=⟨u.heap.size,0,none⟩) (by show u.heap.size<_;rw[UA];omega),Vb];rfl
 have o:=UB l.le (UB (by rw[UA];omega) j.size);have G:=mk1 (((l.alloc _).call j).bl);obtain⟨U,K,D,F,A,m,E⟩:=Jp J u.heap.size g 3 B n S Q;go_wp2_with (at_builtin;refine WH _ rfl _ _ 23 23 rfl _ _ rfl rfl _ _ D ?_)
 go_ret;refine⟨_,rfl,?_,_,K,rfl,A,?_,m,E⟩
 ·rw[I];exact G.trans (F.mono o)
 ·rw[I];exact o
theorem D9(C:Fld P)(x y:Fin P)(R:¬(x=0/\y=0))(ho:¬y.val%2=1)(w:Uq):UG prog 52 #[pv x y] w (rZ w λe w'=>mL w (#[2]++bx x.val) e w'):=by
 have k:=DV C (x:=x) (y:=y) (z:=0) (t:=0) R;rw[<-gI,kT]at k;rw[kT];have i:∀w,UG prog 116 #[.agg #[uZ ((y.val%18446744073709551616:Nat):Int),uZ ((y.val/18446744073709551616%18446744073709551616:Nat):Int),uZ ((y.val/340282366920938463463374607431768211456%18446744073709551616:Nat):Int),uZ ((y.val/6277101735386680763835789423207666416102355444464034512896%18446744073709551616:Nat):Int)]] w (rZ w λe w'=>e=.bool false):=λw=>by
  have h:=Oc C y w;rw[decide_eq_false ho]at h;exact h
 have f:∀w,UG prog 117 #[.agg #[uZ ((x.val%18446744073709551616:Nat):Int),uZ ((x.val/18446744073709551616%18446744073709551616:Nat):Int),uZ ((x.val/340282366920938463463374607431768211456%18446744073709551616:Nat):Int),uZ ((x.val/6277101735386680763835789423207666416102355444464034512896%18446744073709551616:Nat):Int)]] w (rZ w λe w'=>∃g,e=sZ g 32 32/\w.heap.size<=g/\Holds encB w' g 0 (bx x.val)):=Gf C x;have n:=eE x.val;generalize bx x.val=B at f n⊢;generalize x.val%18446744073709551616=a at k i f⊢;generalize x.val/18446744073709551616%18446744073709551616=b at k i f⊢;generalize x.val/340282366920938463463374607431768211456%18446744073709551616=c at k i f⊢;generalize x.val/6277101735386680763835789423207666416102355444464034512896%18446744073709551616=d at k i f⊢;generalize y.val%18446744073709551616=p at k i f⊢;generalize y.val/18446744073709551616%18446744073709551616=q at k i f⊢;generalize y.val/340282366920938463463374607431768211456%18446744073709551616=r at k i f⊢;generalize y.val/6277101735386680763835789423207666416102355444464034512896%18446744073709551616=s at k i f⊢;have W:=mk1 (k);go_enter func52,ntmps52;go_wp2_with fail
 have l:=NF w a b c d p q r s;generalize I:w.heap.size=X at l⊢;refine(i _).mono ?_;rintro e u ⟨v,rfl,H,rfl⟩;replace l:=l.call H;obtain⟨L,O,N,M,T⟩:=l.head;have zx:=l.head.lt;go_wp2_with fail
 refine(f _).mono ?_;rintro e J ⟨v,rfl,j,g,rfl,V,Q⟩;have S:J.cell? ⟨u.heap.size,0,none⟩=some (.int .u8 2):=by
  rw[j.cell (p:=⟨u.heap.size,0,none⟩) (by show u.heap.size<_;rw[UA];omega),Vb];rfl
 have o:=UB l.le (UB (by rw[UA];omega) j.size);have G:=mk1 (((l.alloc _).call j).bl);obtain⟨U,K,D,F,A,m,E⟩:=Jp J u.heap.size g 2 B n S Q;go_wp2_with (at_builtin;refine WH _ rfl _ _ 23 23 rfl _ _ rfl rfl _ _ D ?_)
 go_ret;refine⟨_,rfl,?_,_,K,rfl,A,?_,m,E⟩
 ·rw[I];exact G.trans (F.mono o)
 ·rw[I];exact o
theorem vK(C:Fld P)(x y:Fin P)(w:Uq):UG prog 52 #[pv x y] w (rZ w λe w'=>mL w (tD x y) e w'):=by
 unfold tD mark;by_cases k:x=0/\y=0
 ·rw[yCj k];exact D8 C x y k w
 ·rw[yCk k];by_cases ho:y.val%2=1
  ·rw[yCj ho];exact G5 C x y k ho w
  ·rw[yCk ho];exact D9 C x y k ho w
theorem u23:(prog.underlying 23).map (·.isRow)=some false:=kR
theorem Nh(k o n c i:Nat)(b:i<n)(w:Uq):(Vk 24 (.slice (some ⟨k,o,none⟩) n c) (iZ i)).run prog w=.ok (.pointer (some ⟨k,o+i,none⟩)) w:=by
 go_simp
theorem Rz(N:Nat)(g:N<=512):∃C0:List Us,C0.length=8*N/\∀w:Uq,(XB 100 (iZ N) (iZ N)).run prog w=.ok (sZ w.heap.size N N) (w.alloc (.cells C0.toArray 93)):=by
 have c:prog.underlying 100=some (.slice 93):=kR;have f:(prog.info? 93).map (λi=>(i.size,decide (i.bytes<=4000),i.zero.isSome))=some (8,true,true):=kR;obtain⟨i,b,k⟩:=Ux.1 f;simp only[V5.injEq,decide_eq_true_eq]at k;obtain⟨n,d,m⟩:=k;obtain⟨z,e⟩:=Vq.1 m;refine⟨(madeCells z.cells (N*8)).toList,by rw[UJ,YI,Vu],λw=>?_⟩;have j:(i.bytes:Int)*(N:Int)<=281474976710656:=by
  have:i.bytes*N<=4000*512:=WP d g;have l:((i.bytes*N:Nat):Int)<=281474976710656:=oM;rwa[Xv]at l
 have:=run_make (P:=prog) w 100 93 i z c b e .i64 .i64 (N:Int) (N:Int) oM oM j oM;rw[XZ,n]at this;rw[XC];exact this
theorem TL(N:Nat)(g:N<=512):∃C0:List Us,C0.length=4*N/\∀w:Uq,(XB 89 (iZ N) (iZ N)).run prog w=.ok (sZ w.heap.size N N) (w.alloc (.cells C0.toArray 47)):=by
 have c:prog.underlying 89=some (.slice 47):=kR;have f:(prog.info? 47).map (λi=>(i.size,decide (i.bytes<=4000),i.zero.isSome))=some (4,true,true):=kR;obtain⟨i,b,k⟩:=Ux.1 f;simp only[V5.injEq,decide_eq_true_eq]at k;obtain⟨n,d,m⟩:=k;obtain⟨z,e⟩:=Vq.1 m;refine⟨(madeCells z.cells (N*4)).toList,by rw[UJ,YI,Vu],λw=>?_⟩;have j:(i.bytes:Int)*(N:Int)<=281474976710656:=by
  have:i.bytes*N<=4000*512:=WP d g;have l:((i.bytes*N:Nat):Int)<=281474976710656:=oM;rwa[Xv]at l
 have:=run_make (P:=prog) w 89 47 i z c b e .i64 .i64 (N:Int) (N:Int) oM oM j oM;rw[XZ,n]at this;rw[XC];exact this
structure Rows(sz N:Nat)(cell:Nat->List Us)(m:Nat)(C:List Us):Prop where
 len:C.length=sz*N
 row:∀j r,j<m->r<sz->C[sz*j+r]? = (cell j)[r]?
theorem Rows.next{sz N m:Nat}{cell:Nat->List Us}{C:List Us}(h:Rows sz N cell m C)(f:m<N)(b:(cell m).length=sz):Rows sz N cell (m+1) (rep C (0+sz*m) (cell m)):=by
 have k:=h.len;have i:sz*m+sz<=sz*N:=by rw[<-Yi];exact Yh _ f
 have d:0+sz*m+(cell m).length<=C.length:=by rw[b];omega
 refine⟨by rw[cU d];exact k,λj r g e=>?_⟩;rw[RG.rep_at d];by_cases c:j=m
 ·subst c;rw[yCj (by rw[b];omega),show sz*j+r-(0+sz*j)=r by omega]
 ·have l:sz*j+sz<=sz*m:=by rw[<-Yi];exact Yh _ oM
  rw[yCk (by rw[b];omega)];exact h.row j r oM e
def rq(N:Nat)(k:Bs):Option Nat:=if k.size=32/\beV k.toList<N then some (beV k.toList) else none
def rqV:Option Nat->Us
 | none=>.tuple #[nv 0,.bool false]
 | some n=>.tuple #[nv n,.bool true]
theorem fH:Gives 58 #[] gv1:=λw=>(CQ w).mono (by rintro e w' ⟨rfl,rfl⟩;exact⟨_,rfl,aC _ _,rfl⟩)
theorem AM{N:Nat}(hG:Gap 4624529908474429119 4994812053365940164 1 N)(v:Us)(d:Bs)(w:Uq)(hv:Arg w v d):UG prog 59 #[gv1,v] w (rZ w λe w'=>e=rqV (rq N d)):=by
 obtain⟨p,n,cap,rfl,b,q⟩:=hv;unfold rq;by_cases c:n=32
 ·subst c;obtain⟨g,o,rfl,l,j,m⟩:=q rfl;refine(yW _ _ _ N g o cap d hG w b l j m).mono ?_;rintro e w' ⟨v,rfl,k,⟨f,r,rfl,i⟩|⟨f,rfl⟩⟩
  ·rw[yCj ⟨b,f⟩];exact⟨_,rfl,k,by rw[i.nv];rfl⟩
  ·rw[yCk (λh=>oM)];exact⟨_,rfl,k,rfl⟩
 ·refine(Ko _ p n cap w _ _ _ rfl c).mono ?_;rintro e w' ⟨v,rfl,k,rfl⟩;rw[yCk (λh=>c (b.symm.trans h.1))];exact⟨_,rfl,k,rfl⟩
structure RefP(p0 p1 p2 p3 c0 c1 c2 c3 P:Nat):Prop where
 hp0:p0<18446744073709551616
 hp1:p1<18446744073709551616
 hp2:p2<18446744073709551616
 hp3:p3<18446744073709551616
 hc0:c0<18446744073709551616
 hc1:c1<18446744073709551616
 hc2:c2<18446744073709551616
 hc3:c3<18446744073709551616
 eP:P=val p0 p1 p2 p3
 hP:P+val c0 c1 c2 c3=top
 hP2:top<2*P
theorem QV:RefP 13822214165235122497 13451932020343611451 18446744073709551614 18446744073709551615 4624529908474429119 4994812053365940164 1 0 Go.Proofs.YtdoammpgchejcaaGreat.p1:=
 ⟨dC,dC,dC,dC,dC,dC,dC,dC,dK,dK,dK⟩
def Up(v:Us)(n:Nat):Prop:=∃a b c d f e g k:Nat,v=.agg #[uZ a,uZ b,uZ c,uZ d,uZ f,uZ e,uZ g,uZ k] /\
 a<18446744073709551616/\b<18446744073709551616/\c<18446744073709551616/\d<18446744073709551616/\f<18446744073709551616/\e<18446744073709551616/\g<18446744073709551616/\k<18446744073709551616 /\
 n=val a b c d+top*val f e g k
def wordOf(a b c d k:Nat):Nat:=if k<8 then a else if k<16 then b else if k<24 then c else d
end
section
structure Ord(N:Nat):Prop where
 gap:Gap 4624529908474429119 4994812053365940164 1 N
 ref:RefP 13822214165235122497 13451932020343611451 18446744073709551614 18446744073709551615 4624529908474429119 4994812053365940164 1 0 N
 le:N<=top
 n2:2<=N%18446744073709551616
variable {N:Nat}
theorem Ord.pos(O:Ord N):0<N:=by have:=O.n2;omega
theorem Ord.four(O:Ord N){a:Nat}(h:a<N):Four (nv a) a:=vF (Uw h O.le)
def sMi(N a b:Nat):Nat:=(a+N-b)%N
def sTi(N a b:Nat):Nat:=a*b%N
def sIn(N a:Nat):Nat:=a^(N-2)%N
theorem Iu(O:Ord N){a b:Nat}(c:a<N)(k:b<N):Gives 198 #[gv1,nv a,nv b] (nv (sMi N a b)):=λw =>
 (tK _ _ _ N _ _ a b O.gap (O.four c) (O.four k) c k w).mono (by rintro e w' ⟨v,rfl,k,d⟩;exact⟨_,rfl,k,d.nv⟩)
theorem Is(O:Ord N){a b:Nat}(d:a<N)(k:b<N):Gives 154 #[gv1,nv a,nv b] (nv (sTi N a b)):=λw =>
 (oN _ _ _ N _ _ a b O.gap (O.four d) (O.four k) w).mono (by rintro e w' ⟨v,rfl,k,c⟩;exact⟨_,rfl,k,c.nv⟩)
theorem OM(O:Ord N){a:Nat}(c:a<N):Gives 185 #[gv1,nv a] (nv (sIn N a)):=λw =>
 (uJ _ _ _ N _ a O.gap O.n2 (O.four c) w).mono (by rintro e w' ⟨v,rfl,k,b⟩;exact⟨_,rfl,k,b.nv⟩)
theorem IY{a x y z u:Nat}(h:nv a=.agg #[uZ x,uZ y,uZ z,uZ u]):be32 x y z u=bx a:=by
 have k:wn a=[uZ x,uZ y,uZ z,uZ u]:=by
  unfold nv at h;injection h with h
  exact congrArg Array.toList h
 unfold wn at k;simp only[yB6.injEq,VY.injEq,true_and,and_true,Int.natCast_inj]at k;obtain⟨rfl,rfl,rfl,rfl⟩:=k;rfl
def cb(b:Bs):List Us:=b.toList.map encB
theorem oJ(b:Bs):(cb b).length=b.size:=by unfold cb;rw[UP,UJ]
theorem rL{w:Uq}{g:Nat}{b:Bs}(h:Holds encB w g 0 b):w.rangeAt g 0 (cb b)/\w.there g 0 (cb b).length:=by
 refine⟨λj v hv=>?_,λj k=>?_⟩
 ·have k:j<b.size:=by rw[<-oJ];exact(UE.1 hv).1
  rw[(h j k).1];unfold cb at hv;rw[Vy,Vo,UZ k]at hv;rw[getElem!_pos b j k];exact hv
 ·rw[oJ]at k;exact⟨by rw[(h j k).1];rfl,(h j k).2⟩
theorem cb_holds{w:Uq}{g:Nat}{b:Bs}(d:w.rangeAt g 0 (cb b))(c:w.there g 0 (cb b).length):Holds encB w g 0 b:=λj k=>by
 refine⟨d j _ ?_,(c j (by rw[oJ];exact k)).2⟩;unfold cb;rw[Vy,Vo,UZ k,getElem!_pos b j k];rfl
def Kx(f:FuncId)(args:Array Us)(b:Bs)(n:Nat):Prop:=∀w,UG prog f args w (Ret λe w'=>∃k,Made w k (cb b) w'/\e=sZ k n n)
theorem Iw(O:Ord N){a:Nat}(i:a<N):Kx 117 #[nv a] (bx a) 32:=λw =>
 (As _ a w (O.four i)).mono (by
  rintro e w' ⟨v,rfl,c,g,x,y,z,u,rfl,b,d,k⟩;rw[IY d]at k;obtain⟨j,f⟩:=rL k;exact⟨_,rfl,g,⟨c,b,Holds.lt k (by rw[eE];omega),j,f⟩,rfl⟩)
end
section
variable {P:Nat}[NeZero P]{N:Nat}
theorem T8(a b c d p q r s:Nat)(w:Uq):(binOp .eql 49 (.agg #[uZ a,uZ b,uZ c,uZ d]) (.agg #[uZ p,uZ q,uZ r,uZ s])).run prog w=.ok (.bool (decide (a=p/\b=q/\c=r/\d=s))) w:=by
 go_simp;rw[Fu 9997,Vl];by_cases k:a=p/\b=q/\c=r/\d=s
 ·rw[decide_eq_true k];obtain⟨rfl,rfl,rfl,rfl⟩:=k;simp
 ·have e:(decide (a=p) && (decide (b=q) && (decide (c=r) && decide (d=s))))=false:=by
   rw[<-Bool.not_eq_true,UK,UK,UK];simpa using k
  rw[decide_eq_false k,e];simp
theorem eqS{a b:Nat}(c:a<top)(k:b<top)(w:Uq):(binOp .eql 49 (nv a) (nv b)).run prog w=.ok (.bool (decide (a=b))) w:=by
 refine(T8 (a%18446744073709551616) (a/18446744073709551616%18446744073709551616) (a/340282366920938463463374607431768211456%18446744073709551616) (a/6277101735386680763835789423207666416102355444464034512896%18446744073709551616) (b%18446744073709551616) (b/18446744073709551616%18446744073709551616) (b/340282366920938463463374607431768211456%18446744073709551616) (b/6277101735386680763835789423207666416102355444464034512896%18446744073709551616) w).trans ?_;simp only[Ay c k]
theorem u40:(prog.underlying 49).map (·.isRow)=some true:=kR
theorem i40:(prog.info? 49).map (·.size)=some 4:=kR
theorem u38:(prog.underlying 47).map (·.isRow)=some true:=kR
theorem i38:(prog.info? 47).map (·.size)=some 4:=kR
theorem Dk(O:Ord N)(a b:Nat)(e:a<N)(d:b<N):Gives 131 #[(nv a),(nv b)] (nv (sMi N a b)):=by
 intro w;go_enter func131,ntmps131;refine RG.M.enter [(0,.v (nv a)),(1,.v (nv b))] 12 kR ?_;intro a0 f;repeat refine Uy ?_
 refine f.T [.m 0,.m 1,.m 2] [(0,wn a),(1,wn b),(2,RG.z 4)] [] [wn a,wn b,RG.z 4] [2,3,4] ⟨mk 0 49,mk 1 49,mk 2 49,yCl⟩ ?_;intro g m j n l c;repeat refine Uy ?_
 refine c.D [.c gv1,.s (.p 0 0),.x (nv a),.s (.p 1 0),.x (nv b),.c (nv (sMi N a b)),.x (nv (sMi N a b)),.u 2] [] [(2,7,wn (sMi N a b))] [wn a,wn b,wn (sMi N a b)] [4] ⟨cl fH,st,ld u38 i38,st,ld u38 i38,cl (Iu O e d),st,RG.pt i40,yCl⟩ ?_;intro a2 i k;refine We ?_;refine UD (v:=(nv (sMi N a b))) (aI k.st 4 49 rfl 2 _ rfl (k.at (s:=(.p 2 0))) u40 i40) k.sl.defers ?_;exact⟨_,rfl,k.st.bel.below,rfl⟩
theorem iI(O:Ord N)(a b:Nat)(e:a<N)(d:b<N):Gives 79 #[(nv a),(nv b)] (nv (sTi N a b)):=by
 intro w;go_enter func79,ntmps79;refine RG.M.enter [(0,.v (nv a)),(1,.v (nv b))] 12 kR ?_;intro a0 f;repeat refine Uy ?_
 refine f.T [.m 0,.m 1,.m 2] [(0,wn a),(1,wn b),(2,RG.z 4)] [] [wn a,wn b,RG.z 4] [2,3,4] ⟨mk 0 49,mk 1 49,mk 2 49,yCl⟩ ?_;intro g m j n l c;repeat refine Uy ?_
 refine c.D [.c gv1,.s (.p 0 0),.x (nv a),.s (.p 1 0),.x (nv b),.c (nv (sTi N a b)),.x (nv (sTi N a b)),.u 2] [] [(2,7,wn (sTi N a b))] [wn a,wn b,wn (sTi N a b)] [4] ⟨cl fH,st,ld u38 i38,st,ld u38 i38,cl (Is O e d),st,RG.pt i40,yCl⟩ ?_;intro a2 i k;refine We ?_;refine UD (v:=(nv (sTi N a b))) (aI k.st 4 49 rfl 2 _ rfl (k.at (s:=(.p 2 0))) u40 i40) k.sl.defers ?_;exact⟨_,rfl,k.st.bel.below,rfl⟩
theorem uS(O:Ord N)(a:Nat)(c:a<N):Gives 159 #[(nv a)] (nv (sIn N a)):=by
 intro w;go_enter func159,ntmps159;refine RG.M.enter [(0,.v (nv a))] 8 kR ?_;intro a0 d;repeat refine Uy ?_
 refine d.T [.m 0,.m 1] [(0,wn a),(1,RG.z 4)] [] [wn a,RG.z 4] [1,2] ⟨mk 0 49,mk 1 49,yCl⟩ ?_;intro e g i j b;repeat refine Uy ?_
 refine b.D [.c gv1,.s (.p 0 0),.x (nv a),.c (nv (sIn N a)),.x (nv (sIn N a)),.u 1] [] [(1,5,wn (sIn N a))] [wn a,wn (sIn N a)] [2] ⟨cl fH,st,ld u38 i38,cl (OM O c),st,RG.pt i40,yCl⟩ ?_;intro a2 f k;refine We ?_;refine UD (v:=(nv (sIn N a))) (aI k.st 2 49 rfl 1 _ rfl (k.at (s:=(.p 1 0))) u40 i40) k.sl.defers ?_;exact⟨_,rfl,k.st.bel.below,rfl⟩
theorem Ls(v:Us)(m:Nat)(ok:Bool)(w:Uq)(b:∀w',BelX w.heap.size [] w w'->UG prog 59 #[gv1,v] w' (Ret λe c=>kZ w' c/\e=.tuple #[nv m,.bool ok])):
 UG prog 16 #[v] w (rZ w λe w'=>e=.tuple #[nv m,.bool ok]):=by
 go_enter func16,ntmps16;refine RG.M.enter [(0,.v v)] 15 kR ?_;intro a0 g;repeat refine Uy ?_
 refine g.T [.m 0,.x (.bool false)] [(0,RG.z 4)] [] [RG.z 4] [0,2,3] ⟨mk 0 49,st,yCl⟩ ?_;intro i q l f;repeat refine Uy ?_
 refine f.T [.c gv1,.x v,.c (.tuple #[nv m,.bool ok]),.x (.tuple #[nv m,.bool ok]),.x (nv m),.x (.bool ok),.m 1,.u 1,.x (.bool ok)] [(6,RG.z 4)] [(1,7,wn m)] [RG.z 4,wn m] [2,3,4,5] ⟨cl fH,st,clB (λ_ _=>kR) b,st,st,st,mk 1 47,RG.pt i38,st,yCl⟩ ?_;intro p a2 o d;repeat refine Uy ?_
 refine d.T [.x (nv m),.x (nv m),.x (.bool ok),.u 0,.x (.bool ok)] [] [(0,3,wn m)] [wn m,wn m] [2,3] ⟨ld u38 i38,st,st,RG.pt i40,st,yCl⟩ ?_;intro j n k;refine We ?_;refine UD (v:=.tuple #[nv m,.bool ok]) (cQ k.st 2 3 49 rfl 0 _ rfl (k.at (s:=.p 0 0)) _ (k.av (v:=.bool ok) kR) u40 i40) k.sl.defers ?_;exact⟨_,rfl,k.st.bel.below,rfl⟩
theorem Ey(O:Ord N)(v:Us)(k:Bs)(w:Uq)(hv:Arg w v k):UG prog 16 #[v] w (rZ w λe w'=>e=.tuple #[nv ((rq N k).getD 0),.bool (rq N k).isSome]):=by
 refine Ls v _ _ w λw' c=>?_
 have h:=AM O.gap v k w' (hv.below c.below);cases b:rq N k with
 | none=>rw[b]at h;exact h
 | some n=>rw[b]at h;exact h
theorem qO(O:Ord N){a:Nat}(d:a<N):Kx 141 #[nv a] (bx a) 32:=by
 intro w;go_enter func141,ntmps141;refine RG.M.enter [(0,.v (nv a))] 6 kR ?_;intro a0 e;repeat refine Uy ?_
 refine e.T [.m 0,.x (.slice none 0 0)] [(0,wn a)] [] [wn a] [1,2] ⟨mk 0 49,st,yCl⟩ ?_;intro f j l c;repeat refine Uy ?_
 refine c.t [.s 3 [] (.p 0 0),.x 4 [(3,0)] (nv a),⟨some 5,[(4,1)],.s 1 32 32,.make 1⟩,.s 2 [(5,2)] (.s 1 32 32)] [(2,cb (bx a))] [] [wn a,cb (bx a)] [(2,.s 1 32 32)] ⟨st,ld u38 i38,RG.cm 1 (λw _=>Iw O d w) λ_ _=>kR,st,yCl⟩ ?_;intro i a2 g k;refine We ?_;refine UD (v:=_) (jA 2 rfl _ (k.at (s:=.s 1 32 32))) k.sl.defers ?_;exact⟨_,rfl,_,k.st.made (b:=1) rfl,rfl⟩
end
namespace SP
theorem TP(x:BitVec 64):(x.toNat:Int)<18446744073709551616:=by
 have:=x.isLt;omega
theorem dX(x:BitVec 64):Xa 64 (x.toNat:Int)=x:=by
 apply yAi;rw[Zc,YE];exact UR x.isLt
theorem fK(x:BitVec 64):Vn.wrap (x.toNat:Int)=x.toNat:=by
 rw[XT];have:=TP x;exact yA5 oM this
def u(v:BitVec 64):Int:=(v.toNat:Int)
theorem cY(a b:BitVec 64):bits .xor .u64 (u a) (u b)=u (a ^^^ b):=by
 show Vn.wrap ((Xa 64 (a.toNat:Int) ^^^ Xa 64 (b.toNat:Int)).toNat:Int)=_;rw[dX,dX,fK];rfl
theorem dV(a b:BitVec 64):bits .and .u64 (u a) (u b)=u (a &&& b):=by
 show Vn.wrap ((Xa 64 (a.toNat:Int) &&& Xa 64 (b.toNat:Int)).toNat:Int)=_;rw[dX,dX,fK];rfl
theorem dZ(a b:BitVec 64):bits .or .u64 (u a) (u b)=u (a ||| b):=by
 show Vn.wrap ((Xa 64 (a.toNat:Int) ||| Xa 64 (b.toNat:Int)).toNat:Int)=_;rw[dX,dX,fK];rfl
theorem qJ(a:BitVec 64):bits .xor .u64 Vn.max (u a)=u (~~~a):=by
 have e:Vn.max=u (BitVec.allOnes 64):=dK;rw[e,cY,BitVec.allOnes_xor]
theorem SX(k:Nat)(b:k<64):bits .and .u64 (k:Int) 63=k:=by
 have h:∀j:Fin 64,bits .and .u64 ((j.val:Nat):Int) 63=(j.val:Int):=dK;exact h ⟨k,b⟩
theorem Iq(x:BitVec 64)(k:Nat):Vn.wrap (u x*2^k)=u (x <<< k):=by
 unfold u;rw[XT,BitVec.toNat_shiftLeft,Nat.shiftLeft_eq,Int.natCast_emod,Xv,Z9];rfl
theorem Nu(x:BitVec 64)(k:Nat):u x/2^k=u (x >>> k):=by
 unfold u;rw[BitVec.toNat_ushiftRight,Nat.shiftRight_eq_div_pow,Zb,Z9];rfl
def rol(w:BitVec 64)(n:Nat):BitVec 64:=w <<< n ||| w >>> (64-n)
abbrev St:=Array (BitVec 64)
def enc(v:BitVec 64):Us:=uZ (u v)
def D3(d:St)(x:Nat):BitVec 64:=d[x]! ^^^ d[x+5]! ^^^ d[x+10]! ^^^ d[x+15]! ^^^ d[x+20]!
def pD(d:St):Nat->St
 | 0=>#[0,0,0,0,0]
 | k+1=>(pD d k).setIfInBounds k (D3 d k)
def bT(d:St)(i:Nat)(v:BitVec 64):St:=d.setIfInBounds i (d[i]! ^^^ v)
def mE(v:BitVec 64)(x:Nat)(d:St):Nat->St
 | 0=>d
 | m+1=>bT (mE v x d m) (x+5*m) v
def PV(s:St)(x:Nat):BitVec 64:=s[(x+4)%5]! ^^^ rol s[(x+1)%5]! 1
def nS(s d:St):Nat->St
 | 0=>d
 | k+1=>mE (PV s k) k (nS s d k) 5
def wF(d:St):St:=nS (pD d 5) d 5
theorem dO(d:St)(i:Nat)(v:BitVec 64):(bT d i v).size=d.size:=by simp[bT]
theorem tO(d:St)(k:Nat):(pD d k).size=5:=by
 induction k with
 | zero=>rfl
 | succ k ih=>simp[pD,ih]
theorem rD(v:BitVec 64)(x:Nat)(d:St)(m:Nat):(mE v x d m).size=d.size:=by
 induction m with
 | zero=>rfl
 | succ k ih=>simp[mE,dO,ih]
theorem qL(s d:St)(m:Nat):(nS s d m).size=d.size:=by
 induction m with
 | zero=>rfl
 | succ k ih=>simp[nS,rD,ih]
structure Tm where
 x:Nat
 y:Nat
 m:BitVec 64
 d:St
def offs(t:Nat):Nat:=(t+1)*(t+2)/2%64
def C6(t:Nat)(s:Tm):Tm:=
 { x:=s.y,y:=(2*s.x+3*s.y)%5,m:=s.d[s.y+5*((2*s.x+3*s.y)%5)]!,d:=s.d.setIfInBounds (s.y+5*((2*s.x+3*s.y)%5)) (rol s.m (offs t)) }
def uL(d:St):Nat->Tm
 | 0=>{ x:=1,y:=0,m:=d[1]!,d:=d }
 | t+1=>C6 t (uL d t)
def zK(d:St):St:=(uL d 24).d
theorem Eu(d:St)(hd:d.size=25)(t:Nat):(uL d t).x<5/\(uL d t).y<5/\(uL d t).d.size=25:=by
 induction t with
 | zero=>exact⟨show 1<5 by decide,show 0<5 by decide,hd⟩
 | succ t ih =>
  obtain⟨c,k,b⟩:=ih;refine⟨k,?_,?_⟩
  ·show(2*(uL d t).x+3*(uL d t).y)%5<5;omega
  ·show((uL d t).d.setIfInBounds _ _).size=25;rw[VE,b]
def rowAt(d:St)(i:Nat):St:=
 bT (bT (bT (bT (bT d i (~~~d[i+1]! &&& d[i+2]!)) (i+1) (~~~d[i+2]! &&& d[i+3]!)) (i+2) (~~~d[i+3]! &&& d[i+4]!)) (i+3) (~~~d[i+4]! &&& d[i]!)) (i+4) (~~~d[i]! &&& d[i+1]!)
def yE(d:St):Nat->St
 | 0=>d
 | k+1=>rowAt (yE d k) (5*k)
def chi(d:St):St:=yE d 5
theorem Dn(d:St)(i:Nat):(rowAt d i).size=d.size:=by simp[rowAt,dO]
theorem yD(d:St)(k:Nat):(yE d k).size=d.size:=by
 induction k with
 | zero=>rfl
 | succ k ih=>simp[yE,Dn,ih]
def wS(r:Nat):Nat:=if 255<2*r then(2*r) ^^^ 369 else 2*r
def wR(r:Nat):Nat->BitVec 64 × Nat
 | 0=>(0,r)
 | j+1=>((wR r j).1 ||| Yl 64 ((wR r j).2%2) <<< (2^j-1),wS (wR r j).2)
theorem BV(r:Nat)(h:r<256):wS r<256:=by
 have H:∀j:Fin 256,wS j.val<256:=dK;exact H ⟨r,h⟩
theorem LV(r:Nat)(h:r<256)(j:Nat):(wR r j).2<256:=by
 induction j with
 | zero=>exact h
 | succ j ih=>exact BV _ ih
theorem OQ(r:Nat)(h:r<256):bits .xor .i64 ((r:Int)*2) 369=(((2*r) ^^^ 369:Nat):Int):=by
 have H:∀j:Fin 256,bits .xor .i64 ((j.val:Int)*2) 369=(((2*j.val) ^^^ 369:Nat):Int):=dK;exact H ⟨r,h⟩
theorem OR(r:Nat)(h:r<256):bits .and .i64 (r:Int) 1=u (Yl 64 (r%2)):=by
 have H:∀j:Fin 256,bits .and .i64 (j.val:Int) 1=u (Yl 64 (j.val%2)):=dK;exact H ⟨r,h⟩
theorem pB(x:BitVec 64):Vn.wrap (u x)=u x:=fK x
def xM(d:St)(c:BitVec 64):St:=bT (chi (zK (wF d))) 0 c
def rcC(r:Nat):BitVec 64:=(wR r 7).1
def rcN(r:Nat):Nat:=(wR r 7).2
theorem OS(r:Nat)(h:r<256):rcN r<256:=by
 unfold rcN;exact LV r h 7
def BW:Nat->Nat
 | 0=>1
 | k+1=>rcN (BW k)
theorem LW(k:Nat):BW k<256:=by
 induction k with
 | zero=>decide
 | succ k ih=>exact OS _ ih
def sF(d:St):Nat->St
 | 0=>d
 | k+1=>xM (sF d k) (rcC (BW k))
def perm(d:St):St:=sF d 24
theorem lO(d:St):(wF d).size=d.size:=qL _ _ _
theorem qC(d:St)(hd:d.size=25):(zK d).size=25:=(Eu d hd 24).2.2
theorem Cy(d:St):(chi d).size=d.size:=yD _ _
theorem Cm(d:St)(c:BitVec 64)(hd:d.size=25):(xM d c).size=25:=by
 unfold xM;rw[dO,Cy,qC];rw[lO,hd]
theorem tX(d:St)(hd:d.size=25)(k:Nat):(sF d k).size=25:=by
 induction k with
 | zero=>exact hd
 | succ k ih=>exact Cm _ _ ih
theorem sE(d:St)(hd:d.size=25):(perm d).size=25:=tX d hd 24
abbrev Bs:=Array UInt8
def ub(x:UInt8):Int:=(x.toNat:Int)
def encB(x:UInt8):Us:=.int .u8 (ub x)
def wide(x:UInt8):BitVec 64:=Yl 64 x.toNat
def low(v:BitVec 64):UInt8:=UL v.toNat
theorem KU(x:UInt8):ub x=u (wide x):=by
 unfold ub u wide;rw[YE,UR];have:=x.toNat_lt;omega
theorem En(x:UInt8):Vn.wrap (ub x)=u (wide x):=by rw[KU,pB]
theorem NE(v:BitVec 64):Xx.wrap (u v)=ub (low v):=by
 have e:Xx.wrap (u v)=u v%256:=by simp[yBh,yBi,yAR]
 rw[e];unfold u ub low;rw[YH];omega
def vZ(b:Bs)(o:Nat):Nat->BitVec 64
 | 0=>0
 | i+1=>vZ b o i ||| wide b[o+i]! <<< (8*i)
def wordOf(k:Bs)(o:Nat):BitVec 64:=vZ k o 8
def kX(k:Bs)(d:St):Nat->St
 | 0=>d
 | i+1=>bT (kX k d i) i (wordOf k (8*i))
theorem mC(b:Bs)(d:St)(k:Nat):(kX b d k).size=d.size:=by
 induction k with
 | zero=>rfl
 | succ k ih=>simp[kX,dO,ih]
def byteOf(d:St)(k:Nat):UInt8:=low (d[k/8]! >>> (8*(k%8)))
def gQ(d:St)(n:Nat):Nat->Bs
 | 0=>UI n 0
 | k+1=>(gQ d n k).setIfInBounds k (byteOf d k)
def front(d:St)(n:Nat):Bs:=gQ d n n
theorem mF(d:St)(n k:Nat):(gQ d n k).size=n:=by
 induction k with
 | zero=>simp[gQ]
 | succ k ih=>simp[gQ,ih]
theorem dU(d:St)(n:Nat):(front d n).size=n:=mF d n n
end SP
namespace SP
structure Only(b off n:Nat)(w w':Uq):Prop where
 os:w'.os=w.os
 tape:w'.tape=w.tape
 output:w'.output=w.output
 size:w.heap.size<=w'.heap.size
 block:∀k,k<w.heap.size->k≠b->w'.heap[k]? = w.heap[k]?
 cell:∀o,(o<off\/off+n<=o)->w'.cell? ⟨b,o,none⟩=w.cell? ⟨b,o,none⟩
 froz:∀o,w'.frozen? ⟨b,o,none⟩=w.frozen? ⟨b,o,none⟩
variable {b off n:Nat}{w w1 w2:Uq}
theorem Only.refl(b off n:Nat)(w:Uq):Only b off n w w:=⟨rfl,rfl,rfl,Uv _,λ_ _ _=>rfl,λ_ _=>rfl,λ_=>rfl⟩
theorem Only.trans(h:Only b off n w w1)(k:Only b off n w1 w2):Only b off n w w2:=
 ⟨k.os.trans h.os,k.tape.trans h.tape,k.output.trans h.output,UB h.size k.size,
  λi c d=>(k.block i (Uw c h.size) d).trans (h.block i c d),
  λo ho=>(k.cell o ho).trans (h.cell o ho),λo=>(k.froz o).trans (h.froz o)⟩
theorem Only.drewN(h:Only b off n w w1)(q:Nat):Only b off n w (w1.drewN q):=⟨h.os,h.tape,h.output,h.size,h.block,h.cell,h.froz⟩
theorem Only.drew(h:Only b off n w w1):Only b off n w w1.drew:=⟨h.os,h.tape,h.output,h.size,h.block,h.cell,h.froz⟩
theorem Only.setCell(h:Only b off n w w1){o:Nat}(g:off<=o)(f:o<off+n)(v:Us):Only b off n w (w1.setCell ⟨b,o,none⟩ v):=by
 refine h.trans ⟨rfl,rfl,rfl,by simp,λk _ d=>Zr _ _ _ _ d,λc ho=>?_,λc=>by simp⟩;exact UT _ _ _ _ (by intro e;simp only[Addr.mk.injEq,and_true,true_and]at e;omega)
theorem Only.alloc(h:Only b off n w w1)(e:b<w1.heap.size)(o:Obj):Only b off n w (w1.alloc o):=by
 refine h.trans ⟨rfl,rfl,rfl,by simp,λk d _=>Below.heap_alloc _ _ _ d,λc _=>?_,λc=>?_⟩
 ·exact World.cell?_alloc_lt _ _ _ e
 ·exact World.frozen?_alloc_old _ _ _ (by show b≠_;omega)
theorem Only.below(h:Only b off n w w1){B:Nat}(c:B<=w.heap.size)(e:B<=b):Below B w w1:=
 ⟨h.os,h.tape,h.output,h.size,λk d=>h.block k oM oM⟩
theorem Only.of_below{B:Nat}(h:Below B w w1)(d:B=w.heap.size)(c:b<B):Only b off n w w1:=
 ⟨h.os,h.tape,h.output,h.size,λk e _=>h.block k oM,λo _=>h.cell (p:=⟨b,o,none⟩) c,λo=>h.frozen (p:=⟨b,o,none⟩) c⟩
theorem Only.other(h:Only b off n w w1){c o:Nat}(k:c≠b)(d:c<w.heap.size):w1.cell? ⟨c,o,none⟩=w.cell? ⟨c,o,none⟩/\w1.frozen? ⟨c,o,none⟩=w.frozen? ⟨c,o,none⟩:=
 ⟨UV (w:=w) (h.block c d k),VT (w:=w) (h.block c d k)⟩
theorem Only.fresh{o m:Nat}{x:Obj}(h:Only w.heap.size o m (w.alloc x) w1):kZ w w1:=
 ((UQ _ _).alloc (Uv _) x).trans (h.below (by simp) (Uv _))
section
variable {α:Type}[Inhabited α]{enc:α->Us}{d:Array α}
theorem Holds.lt(h:Holds enc w b off d)(hd:0<d.size):b<w.heap.size:=Xn _ _ (h 0 hd).1
theorem Holds.other{c o:Nat}(h:Holds enc w c o d)(k:Only b off n w w1)(f:c≠b)(hd:0<d.size):Holds enc w1 c o d:=by
 intro j e;have:=h j e;have:=k.other (o:=o+j) f (Holds.lt h hd);rw[this.1,this.2];exact h j e
theorem Holds.same{o:Nat}(h:Holds enc w b o d)(k:Only b off n w w1)(hd:o+d.size<=off\/off+n<=o):Holds enc w1 b o d:=by
 intro j c;rw[k.cell _ oM,k.froz];exact h j c
theorem Holds.below{B:Nat}(h:Holds enc w b off d)(k:Below B w w1)(c:b<B):Holds enc w1 b off d:=by
 intro j e;rw[k.cell (p:=⟨b,off+j,none⟩) c,k.frozen (p:=⟨b,off+j,none⟩) c];exact h j e
theorem Holds.drewN(h:Holds enc w b off d)(q:Nat):Holds enc (w.drewN q) b off d:=h
theorem Holds.drew(h:Holds enc w b off d):Holds enc w.drew b off d:=h
theorem Holds.set(h:Holds enc w b off d){i:Nat}(c:i<d.size)(x:α):Holds enc (w.setCell ⟨b,off+i,none⟩ (enc x)) b off (d.setIfInBounds i x):=by
 intro j k;rw[VE]at k;rw[VK];by_cases e:j=i
 ·subst e;rw[getElem!_set_same d j x c];exact⟨VU _ _ _ (h j k).1,(h j k).2⟩
 ·rw[getElem!_set_other d i j x e,UT _ _ _ _ (by intro e';simp only[Addr.mk.injEq,and_true,true_and]at e';omega)];exact h j k
theorem Holds.new(w:Uq)(t:U7)(d:Array α):Holds enc (w.alloc (.cells (d.map enc) t)) w.heap.size 0 d:=by
 intro j k;rw[Vb,Wu];refine⟨?_,rfl⟩;simp only[UC,yAE,UZ k,Yv,getElem!_pos d j k]
theorem Holds.made(w:Uq)(t:U7)(n:Nat)(x:α):Holds enc (w.alloc (.cells (madeCells #[enc x] n) t)) w.heap.size 0 (UI n x):=by
 intro j k;rw[UO]at k;rw[Vb,Wu];refine⟨?_,rfl⟩;rw[getElem!_pos _ j (by simpa using k),Wv];simp[madeCells,k,Nat.mod_one]
end
theorem Holds.xor{d:St}(h:Holds enc w b off d){i:Nat}(k:i<d.size){x:BitVec 64}(hx:d[i]! = x)(v:BitVec 64):Holds enc (w.setCell ⟨b,off+i,none⟩ (uZ (u (x ^^^ v)))) b off (bT d i v):=by
 unfold bT;rw[hx];exact Holds.set h k (x ^^^ v)
theorem bX(d:St)(i j:Nat)(v:BitVec 64)(h:j≠i):(bT d i v)[j]! = d[j]!:=getElem!_set_other d i j _ h
end SP
namespace SP
theorem mixed:prog.follows .mixedOrders=true:=kR
theorem bP{w:Uq}{b off:Nat}{d:St}(h:Holds enc w b off d)(i:Nat)(k:i<d.size){x:BitVec 64}(hx:d[i]! = x):
 w.cell? ⟨b,off+i,none⟩=some (uZ (u x))/\w.frozen? ⟨b,off+i,none⟩=false:=by
 rw[<-hx];exact h i k
theorem ret_int{k:IntKind}{a b:Int}(h:a=b):Ending.returned (.int k a)=.returned (.int k b):=by rw[h]
theorem BP(x:BitVec 64)(k:Nat)(w:Uq)(b:k<64):
 UG prog 252 #[uZ (u x),iZ k] w λe w'=>e=.returned (uZ (u (rol x k)))/\w'=w:=by
 have c:=SX k b;go_enter func252,ntmps252;go_wp2;go_ret;refine⟨ret_int ?_,rfl⟩;rw[Iq,Nu,dZ];rfl
end SP
namespace SP
theorem Co(w:Uq)(t:U7):Holds enc (w.alloc (.cells #[uZ 0,uZ 0,uZ 0,uZ 0,uZ 0] t)) w.heap.size 0 (#[0,0,0,0,0]:St):=by
 have h:=Holds.new (enc:=enc) w t (#[0,0,0,0,0]:St);have e:yB3 enc (#[0,0,0,0,0]:St)=#[uZ 0,uZ 0,uZ 0,uZ 0,uZ 0]:=by simp[enc,u]
 rw[e]at h;exact h
attribute [local go_sem] cY dV dZ
theorem xH(b off:Nat)(d:St)(w:Uq)(hd:d.size=25)(P:Holds enc w b off d):
 UG prog 248 #[.pointer (some ⟨b,off,none⟩)] w λe w'=>e=.returned (.tuple #[])/\Only b off 25 w w'/\Holds enc w' b off (wF d):=by
 have N:=Holds.lt P oM;go_enter func248,ntmps248;go_wp2;generalize o:(w.alloc _)=Z;go_loopg [7] 5 (λg s7 wr=>∃k l,k+g=5/\s7=.int .i64 (k:Nat)/\Holds enc wr w.heap.size 0 l/\Only w.heap.size 0 5 Z wr/\Hid (l=pD d k))
 case atStart =>
  refine⟨0,#[0,0,0,0,0],rfl,rfl,?_,Only.refl _ _ _ _,rfl⟩;rw[<-o];exact Co w 314
 case round =>
  obtain⟨k,l,T,rfl,H,n,r⟩:=hrel;have j:Holds enc wr b off d:=Holds.other (by rw[<-o];exact Holds.below P ((UQ _ _).alloc (Uv _) _) N) n oM oM;by_cases C:k<5
  ·obtain⟨y,q⟩:∃x,d[k]! = x:=⟨_,rfl⟩
   obtain⟨a,t⟩:∃x,d[k+5]! = x:=⟨_,rfl⟩
   obtain⟨B,s⟩:∃x,d[k+10]! = x:=⟨_,rfl⟩
   obtain⟨D,u⟩:∃x,d[k+15]! = x:=⟨_,rfl⟩
   obtain⟨A,p⟩:∃x,d[k+20]! = x:=⟨_,rfl⟩
   obtain⟨K,v⟩:∃x,l[k]! = x:=⟨_,rfl⟩
   have L:l.size=5:=by rw[r.out,tO]
   obtain⟨I,Q⟩:=bP j k oM q;obtain⟨c1,S⟩:=bP j (k+5) oM t;obtain⟨c2,f2⟩:=bP j (k+10) oM s;obtain⟨c3,W⟩:=bP j (k+15) oM u;obtain⟨c4,X⟩:=bP j (k+20) oM p;obtain⟨G,E⟩:=bP H k oM v;rw[UC]at G E;have F:Hid (D3 d k=y ^^^ a ^^^ B ^^^ D ^^^ A):=by rw[<-q,<-t,<-s,<-u,<-p];rfl
   clear q t s u p v j;have k5:(k:Int)<5:=oM;have b0:(k:Int)<25:=oM;have b1:(k:Int)+5<25:=oM;have M:(k:Int)+10<25:=oM;have O:(k:Int)+15<25:=oM;have b4:(k:Int)+20<25:=oM;have p1:0<=(k:Int)+5:=oM;have p2:0<=(k:Int)+10:=oM;have J:0<=(k:Int)+15:=oM;have U:0<=(k:Int)+20:=oM;have Y:((k:Int)+5).toNat=k+5:=oM;have e2:((k:Int)+10).toNat=k+10:=oM;have e3:((k:Int)+15).toNat=k+15:=oM;have e4:((k:Int)+20).toNat=k+20:=oM;have v1:VR.wrap ((k:Int)+5)=(k:Int)+5:=Wr _ oM;have v2:VR.wrap ((k:Int)+10)=(k:Int)+10:=Wr _ oM;have V:VR.wrap ((k:Int)+15)=(k:Int)+15:=Wr _ oM;have R:VR.wrap ((k:Int)+20)=(k:Int)+20:=Wr _ oM;go_wp2_with fail
   go_still_tail 35,mixed;go_wp2;go_roundg (gk-1)
   case measure=>omega
   case rel =>
    refine⟨k+1,l.setIfInBounds k (y ^^^ a ^^^ B ^^^ D ^^^ A),oM,by go_num,?_,?_,?_⟩
    ·have:=Holds.set H (i:=k) oM (y ^^^ a ^^^ B ^^^ D ^^^ A);rw[UC]at this;exact Holds.drew this
    ·exact(n.setCell (Wx _) oM _).drew
    ·show _=(pD d k).setIfInBounds k (D3 d k);rw[F.out,r.out]
  ·have s:k=5:=oM;subst s;have V:Hid (l=pD d 5):=r;have D:Only b off 25 w wr:=by
    rw[<-o]at n;exact Only.of_below n.fresh rfl N
   clear T C r n o;go_wp2;go_loopg [46] 5 (λg s46 B=>∃k q,k+g=5/\s46=.int .i64 (k:Nat)/\Holds enc B b off q/\Only b off 25 wr B/\Hid (q=nS l d k))
   case atStart=>exact⟨0,d,rfl,rfl,j,Only.refl _ _ _ _,rfl⟩
   case round =>
    obtain⟨k,q,T,rfl,R,n,r⟩:=hrel;by_cases C:k<5
    ·have L:l.size=5:=by rw[V.out,tO]
     have a:=Holds.other H n oM oM;obtain⟨A,t⟩:∃x,l[(k+4)%5]! = x:=⟨_,rfl⟩
     obtain⟨v,u⟩:∃x,l[(k+1)%5]! = x:=⟨_,rfl⟩
     obtain⟨I,Q⟩:=bP a ((k+4)%5) oM t;obtain⟨c1,S⟩:=bP a ((k+1)%5) oM u;rw[UC]at I c1;have HD:Hid (PV l k=A ^^^ rol v 1):=by rw[<-t,<-u];rfl
     clear t u Q S;have k5:(k:Int)<5:=oM;go_wp2_with fail
     go_quiet ((go_at_call 252;exact Calls.quiet_of_same (BP _ 1 _ dC)));clear I c1;go_wp2;have W:=n.drewN nq;have K:=Holds.drewN R nq;have G:q.size=25:=by rw[r.out,qL,hd]
     go_loopg [6] 5 (λg s6 B=>∃m p,m+g=5/\s6=.int .i64 ((k+5*m:Nat):Int)/\Holds enc B b off p/\Only b off 25 wr B/\Hid (p=mE (A ^^^ rol v 1) k q m))
     case atStart=>exact⟨0,q,rfl,rfl,K,(Only.refl _ _ _ _).drewN _,rfl⟩
     case round =>
      obtain⟨m,p,hm,rfl,M,y,F⟩:=hrel;by_cases U:m<5
      ·have h0:p.size=25:=by rw[F.out,rD,G]
       obtain⟨z,J⟩:∃x,p[k+5*m]! = x:=⟨_,rfl⟩
       obtain⟨c,f⟩:=bP M (k+5*m) oM J;have Y:Hid (p[k+5*m]! = z):=J;clear J;have X:((k+5*m:Nat):Int)<25:=oM;generalize E:k+5*m=i at *;have O:Hid (k+5*m=i):=E;clear E;go_wp2_with fail
       go_still_tail 9,mixed;go_wp2;go_roundg (gk-1)
       case measure=>omega
       case rel =>
        refine⟨m+1,p.setIfInBounds i (z ^^^ (A ^^^ rol v 1)),oM,?_,?_,?_,?_⟩
        ·rw[<-O.out];go_num
        ·exact Holds.drew (Holds.set M oM _)
        ·exact(y.setCell (Y8 _ _) oM _).drew
        ·show _=bT (mE (A ^^^ rol v 1) k q m) (k+5*m) (A ^^^ rol v 1);rw[<-F.out,O.out,<-Y.out];rfl
      ·have J:m=5:=oM;subst J;have X:(25:Int)<=((k+5*5:Nat):Int):=oM;generalize E:k+5*5=i at *;go_wp2;go_roundg (4-k)
       case measure=>omega
       case rel =>
        refine⟨k+1,p,oM,by go_num,M,n.trans y,?_⟩;show _=mE (PV l k) k (nS l d k) 5;rw[<-r.out,HD.out];exact F.out
    ·have s:k=5:=oM;subst s;go_wp2
     go_end0
     refine⟨rfl,D.trans n,?_⟩;have:wF d=q:=by rw[r.out,V.out];rfl
     rw[this];exact R
end SP
namespace SP
attribute [local go_sem] cY dV dZ
theorem IW(t:Nat)(h:t<24):(wrap64 ((wrap64 (((t:Int)+1)*((t:Int)+2))).tdiv 2)).tmod 64=(offs t:Int):=by
 have H:∀j:Fin 24,(wrap64 ((wrap64 (((j.val:Int)+1)*((j.val:Int)+2))).tdiv 2)).tmod 64=(offs j.val:Int):=dK;exact H ⟨t,h⟩
theorem uK(b off:Nat)(d:St)(w:Uq)(hd:d.size=25)(A:Holds enc w b off d):
 UG prog 249 #[oZ b off] w λe w'=>e=.returned (.tuple #[])/\Only b off 25 w w'/\Holds enc w' b off (zK d):=by
 obtain⟨K,o⟩:∃x,d[1]! = x:=⟨_,rfl⟩
 obtain⟨c1,J⟩:=bP A 1 oM o;go_enter func249,ntmps249;go_wp2;go_loopg [2,3,4,12] 24 (λg sx G sm st wr=>∃t T,t+g=24/\st=iZ (t:Nat)/\sx=iZ (T.x:Nat)/\G=iZ (T.y:Nat)/\sm=uZ (u T.m)/\Holds enc wr b off T.d/\Only b off 25 w wr/\Hid (T=uL d t))
 case atStart=>exact⟨0,uL d 0,rfl,rfl,rfl,rfl,by rw[<-o];rfl,A,Only.refl _ _ _ _,rfl⟩
 case round =>
  obtain⟨t,⟨x,y,m,C⟩,L,rfl,rfl,rfl,rfl,q,D,r⟩:=hrel;have l:=Eu d hd t;rw[<-r.out]at l;obtain⟨hx,E,F⟩:=l;dsimp only at hx E F q;by_cases v:t<24
  ·obtain⟨i,H⟩:∃i,y+5*((2*x+3*y)%5)=i:=⟨_,rfl⟩
   obtain⟨z,B⟩:∃z,C[i]! = z:=⟨_,rfl⟩
   obtain⟨c,f⟩:=bP q i oM B;have I:=mk1 (B);have a:=mk1 (H);go_wp2_with fail
   rw[IW t v];refine(BP m (offs t) _ (V4 _ dC)).mono ?_;rintro e w' ⟨rfl,rfl⟩;go_wp2_with fail
   obtain⟨p,s⟩:∃n,(2*x+3*y)%5=n:=⟨_,rfl⟩
   have j:(2*(x:Int)+3*(y:Int))%5=(p:Int):=oM;rw[j];have k:=mk1 (s);have M:((y:Int)+5*(p:Int)).toNat=i:=by have:=a.out;have:=k.out;omega
   go_region
   go_wp2;go_roundg (gk-1)
   case measure=>omega
   case rel =>
    refine⟨t+1,⟨y,p,z,C.setIfInBounds i (rol m (offs t))⟩,oM,by go_num,rfl,rfl,rfl,?_,?_,?_⟩
    ·exact Holds.drew (Holds.set q oM _)
    ·exact(D.setCell (Y8 _ _) oM _).drew
    ·show _=C6 t (uL d t);rw[<-r.out];simp only[C6,k.out];have e:y+5*p=i:=by have:=a.out;have:=k.out;omega
     rw[e,I.out]
  ·have k:t=24:=oM;subst k;go_wp2
   go_end0
   refine⟨rfl,D,?_⟩;show Holds enc _ b off (uL d 24).d;rw[<-r.out];exact q
end SP
namespace SP
attribute [local go_sem] cY dV dZ qJ
theorem Ch(b off:Nat)(d:St)(w:Uq)(hd:d.size=25)(hH:Holds enc w b off d):
 UG prog 250 #[.pointer (some ⟨b,off,none⟩)] w λe w'=>e=.returned (.tuple #[])/\Only b off 25 w w'/\Holds enc w' b off (chi d):=by
 go_enter func250,ntmps250;go_wp2;go_loopg [2] 5 (λg si wr=>∃k j,k+g=5/\si=.int .i64 ((5*k:Nat):Int)/\Holds enc wr b off j/\Only b off 25 w wr/\Hid (j=yE d k))
 case atStart=>exact⟨0,d,rfl,rfl,hH,Only.refl _ _ _ _,rfl⟩
 case round =>
  obtain⟨k,j,hk,rfl,a,hO,HE⟩:=hrel;have hs:j.size=25:=by rw[HE.out,yD,hd]
  by_cases hc:k<5
  ·obtain⟨i,hi⟩:∃i,5*k=i:=⟨_,rfl⟩
   rw[hi];have Hi:Hid (5*k=i):=hi;obtain⟨t,F⟩:∃x,j[i]! = x:=⟨_,rfl⟩
   obtain⟨s,I⟩:∃x,j[i+1]! = x:=⟨_,rfl⟩
   obtain⟨r,H⟩:∃x,j[i+2]! = x:=⟨_,rfl⟩
   obtain⟨p,P⟩:∃x,j[i+3]! = x:=⟨_,rfl⟩
   obtain⟨n,D⟩:∃x,j[i+4]! = x:=⟨_,rfl⟩
   obtain⟨c0,f0⟩:=bP a i oM F;obtain⟨c1,f1⟩:=bP a (i+1) oM I;obtain⟨c2,f2⟩:=bP a (i+2) oM H;obtain⟨c3,f3⟩:=bP a (i+3) oM P;obtain⟨c4,f4⟩:=bP a (i+4) oM D;have E:Hid (j[i]! = t):=F;have q:Hid (j[i+1]! = s):=I;have l:Hid (j[i+2]! = r):=H;have f:Hid (j[i+3]! = p):=P;have c:Hid (j[i+4]! = n):=D;have Q0:=E;have Q1:=q;have Q2:=l;have Q3:=f;have Q4:=c;have b1:(i:Int)+1<25:=oM;have p1:0<=(i:Int)+1:=oM;have e1:((i:Int)+1).toNat=i+1:=oM;have v1:VR.wrap ((i:Int)+1)=(i:Int)+1:=Wr _ oM;have T:(i:Int)+2<25:=oM;have p2:0<=(i:Int)+2:=oM;have e2:((i:Int)+2).toNat=i+2:=oM;have v2:VR.wrap ((i:Int)+2)=(i:Int)+2:=Wr _ oM;have V:(i:Int)+3<25:=oM;have S:0<=(i:Int)+3:=oM;have e3:((i:Int)+3).toNat=i+3:=oM;have Z:VR.wrap ((i:Int)+3)=(i:Int)+3:=Wr _ oM;have b4:(i:Int)+4<25:=oM;have p4:0<=(i:Int)+4:=oM;have e4:((i:Int)+4).toNat=i+4:=oM;have v4:VR.wrap ((i:Int)+4)=(i:Int)+4:=Wr _ oM;go_wp2_with fail
   go_quiet (fail);clear c1 c2 c3 c4 f1 f2 f3 f4 b1 p1 e1 v1 T p2 e2 v2 V S e3 Z b4 p4 e4 v4;go_wp2_with fail
   go_region
   go_wp2_with fail
   generalize A:Yb _ _ _=W0;have hb:(bT j i (~~~s &&& r)).size=25:=by rw[dO];omega
   have R:Holds enc W0 b off (bT j i (~~~s &&& r)):=by rw[<-A];exact Holds.xor (Holds.drewN a _) oM E.out _
   have h1:Only b off 25 w W0:=by rw[<-A];exact(hO.drewN _).setCell (o:=off+i) oM oM _
   generalize m:bT j i (~~~s &&& r)=u at *;have h5:Hid (bT j i (~~~s &&& r)=u):=m;have q:Hid (u[i+1]! = s):=by show _=_;rw[<-m,bX _ _ _ _ oM];exact q.out
   have l:Hid (u[i+2]! = r):=by show _=_;rw[<-m,bX _ _ _ _ oM];exact l.out
   have f:Hid (u[i+3]! = p):=by show _=_;rw[<-m,bX _ _ _ _ oM];exact f.out
   have c:Hid (u[i+4]! = n):=by show _=_;rw[<-m,bX _ _ _ _ oM];exact c.out
   obtain⟨c1,f1⟩:=bP R (i+1) oM q.out;clear m A c0 f0;have b1:(i:Int)+1<25:=oM;have p1:0<=(i:Int)+1:=oM;have e1:((i:Int)+1).toNat=i+1:=oM;have v1:VR.wrap ((i:Int)+1)=(i:Int)+1:=Wr _ oM;go_region
   go_wp2_with fail
   generalize G:Yb _ _ _=W1;have he:(bT u (i+1) (~~~r &&& p)).size=25:=by rw[dO];omega
   have N:Holds enc W1 b off (bT u (i+1) (~~~r &&& p)):=by rw[<-G];exact Holds.xor R oM q.out _
   have W:Only b off 25 w W1:=by rw[<-G];exact(h1).setCell (o:=off+(i+1)) oM oM _
   generalize v:bT u (i+1) (~~~r &&& p)=y at *;have h4:Hid (bT u (i+1) (~~~r &&& p)=y):=v;have l:Hid (y[i+2]! = r):=by show _=_;rw[<-v,bX _ _ _ _ oM];exact l.out
   have f:Hid (y[i+3]! = p):=by show _=_;rw[<-v,bX _ _ _ _ oM];exact f.out
   have c:Hid (y[i+4]! = n):=by show _=_;rw[<-v,bX _ _ _ _ oM];exact c.out
   obtain⟨c2,f2⟩:=bP N (i+2) oM l.out;clear b1 p1 e1 v1;have T:(i:Int)+2<25:=oM;have p2:0<=(i:Int)+2:=oM;have e2:((i:Int)+2).toNat=i+2:=oM;have v2:VR.wrap ((i:Int)+2)=(i:Int)+2:=Wr _ oM;go_region
   go_wp2_with fail
   generalize L:Yb _ _ _=W2;have h9:(bT y (i+2) (~~~p &&& n)).size=25:=by rw[dO];omega
   have J:Holds enc W2 b off (bT y (i+2) (~~~p &&& n)):=by rw[<-L];exact Holds.xor N oM l.out _
   have U:Only b off 25 w W2:=by rw[<-L];exact(W).setCell (o:=off+(i+2)) oM oM _
   generalize z:bT y (i+2) (~~~p &&& n)=B at *;have h7:Hid (bT y (i+2) (~~~p &&& n)=B):=z;have f:Hid (B[i+3]! = p):=by show _=_;rw[<-z,bX _ _ _ _ oM];exact f.out
   have c:Hid (B[i+4]! = n):=by show _=_;rw[<-z,bX _ _ _ _ oM];exact c.out
   obtain⟨c3,f3⟩:=bP J (i+3) oM f.out;clear T p2 e2 v2;have V:(i:Int)+3<25:=oM;have S:0<=(i:Int)+3:=oM;have e3:((i:Int)+3).toNat=i+3:=oM;have Z:VR.wrap ((i:Int)+3)=(i:Int)+3:=Wr _ oM;go_region
   go_wp2_with fail
   generalize K:Yb _ _ _=W3;have ha:(bT B (i+3) (~~~n &&& t)).size=25:=by rw[dO];omega
   have M:Holds enc W3 b off (bT B (i+3) (~~~n &&& t)):=by rw[<-K];exact Holds.xor J oM f.out _
   have h0:Only b off 25 w W3:=by rw[<-K];exact(U).setCell (o:=off+(i+3)) oM oM _
   generalize Q:bT B (i+3) (~~~n &&& t)=C at *;have X:Hid (bT B (i+3) (~~~n &&& t)=C):=Q;have c:Hid (C[i+4]! = n):=by show _=_;rw[<-Q,bX _ _ _ _ oM];exact c.out
   obtain⟨c4,f4⟩:=bP M (i+4) oM c.out;clear V S e3 Z;have b4:(i:Int)+4<25:=oM;have p4:0<=(i:Int)+4:=oM;have e4:((i:Int)+4).toNat=i+4:=oM;have v4:VR.wrap ((i:Int)+4)=(i:Int)+4:=Wr _ oM;go_region
   go_wp2;generalize O:Yb _ _ _=W4;have h8:(bT C (i+4) (~~~t &&& s)).size=25:=by rw[dO];omega
   have h2:Holds enc W4 b off (bT C (i+4) (~~~t &&& s)):=by rw[<-O];exact Holds.xor M oM c.out _
   have h3:Only b off 25 w W4:=by rw[<-O];exact(h0).setCell (o:=off+(i+4)) oM oM _
   generalize Y:bT C (i+4) (~~~t &&& s)=d4 at *;have h6:Hid (bT C (i+4) (~~~t &&& s)=d4):=Y;go_roundg (gk-1)
   case measure=>omega
   case rel =>
    refine⟨k+1,d4,oM,?_,?_,?_,?_⟩
    ·rw[<-Hi.out];go_num
    ·exact h2
    ·exact h3.drewN 4
    ·show d4=rowAt (yE d k) (5*k);rw[<-HE.out,Hi.out];unfold rowAt;rw[Q0.out,Q1.out,Q2.out,Q3.out,Q4.out,h5.out,h4.out,h7.out,X.out,h6.out]
  ·have c:k=5:=oM;subst c;go_wp2
   go_end0
   refine⟨rfl,hO,?_⟩;show Holds enc _ b off (yE d 5);rw[<-HE.out];exact a
end SP
namespace SP
attribute [local go_sem] cY dV dZ pB
theorem Gz(j:Nat)(k:j<7):∃p:Nat,wrap64 (wrap64 ((2:Int)^j)-1)=(p:Int)/\p<=63/\Hid (2^j-1=p):=by
 have H:∀j:Fin 7,wrap64 (wrap64 ((2:Int)^j.val)-1)=((2^j.val-1:Nat):Int)/\2^j.val-1<=63:=dK;exact⟨_,(H ⟨j,k⟩).1,(H ⟨j,k⟩).2,rfl⟩
theorem qQ(r:Nat)(w:Uq)(n:r<256):
 UG prog 251 #[iZ r] w λe w'=>e=.returned (.tuple #[uZ (u (rcC r)),iZ (rcN r:Int)])/\w'=w:=by
 go_enter func251,ntmps251;go_wp2
 go_loop [0,2,6] (λs0 s2 s6=>∃j:Nat,j<=7/\∃(c:BitVec 64) (q:Nat),s6=iZ j/\s2=uZ (u c)/\s0=iZ q/\q<256/\Hid (wR r j=(c,q))) (λ_ _ s6=>7-(intOf s6).toNat)
 case atStart=>exact⟨0,dC,0,r,rfl,rfl,rfl,n,rfl⟩
 case round =>
  obtain⟨j,v,c,q,rfl,rfl,rfl,f,i⟩:=hrel;by_cases g:j<7
  ·have y:=OR q f;have a2:=OQ q f;obtain⟨p,s,x,o⟩:=Gz j g;have l:Hid (wR r (j+1)=(c ||| Yl 64 (q%2) <<< p,wS q)):=by
    show((wR r j).1 ||| Yl 64 ((wR r j).2%2) <<< (2^j-1),wS (wR r j).2)=_;rw[i.out,o.out]
   have t:=Iq (Yl 64 (q%2)) p;have k:=BV q f;by_cases b:255<2*q
   ·have d:Hid (wS q=2*q ^^^ 369):=yCj b;rw[d.out]at k;generalize 2*q ^^^ 369=m at *;go_wp2
    go_round
    case rel=>exact⟨j+1,oM,_,m,by go_num,rfl,rfl,k,by rw[l.out,d.out];rfl⟩
    case measure=>simp[intOf];omega
   ·have d:Hid (wS q=2*q):=yCk b;go_wp2
    go_round
    case rel=>exact⟨j+1,oM,_,2*q,by go_num,rfl,by go_num,oM,by rw[l.out,d.out];rfl⟩
    case measure=>simp[intOf];omega
  ·have k:j=7:=oM;subst k;go_wp2
   go_ret2
   unfold rcC rcN;rw[i.out];exact⟨rfl,rfl⟩
theorem tW(b off:Nat)(d:St)(w:Uq)(hd:d.size=25)(G:Holds enc w b off d):
 UG prog 241 #[oZ b off] w λe w'=>e=.returned (.tuple #[])/\Only b off 25 w w'/\Holds enc w' b off (perm d):=by
 go_enter func241,ntmps241;go_wp2;go_loopg [2,3,4] 24 (λg sc B D wr=>∃(k:Nat) (c:BitVec 64) (f:St),k+g=24/\D=iZ k/\sc=uZ (u c)/\B=iZ (BW k:Nat)/\Holds enc wr b off f/\Only b off 25 w wr/\Hid (f=sF d k))
 case atStart=>exact⟨0,0,d,rfl,rfl,rfl,rfl,G,Only.refl _ _ _ _,rfl⟩
 case round =>
  obtain⟨k,c,f,L,rfl,rfl,rfl,y,z,q⟩:=hrel;have l:f.size=25:=by rw[q.out,tX d hd]
  by_cases J:k<24
  ·have E:(k:Int)<24:=oM;go_wp2_with fail
   refine(xH b off f _ l y).mono ?_;rintro e K ⟨rfl,s,t⟩;go_wp2_with fail
   refine(uK b off _ _ (by rw[lO,l]) t).mono ?_;rintro e O ⟨rfl,p,v⟩;go_wp2_with fail
   refine(Ch b off _ _ (qC _ (by rw[lO,l])) v).mono ?_;rintro e M ⟨rfl,n,j⟩;have H:Hid (BW (k+1)=rcN (BW k)):=rfl;have A:Hid (sF d (k+1)=xM (sF d k) (rcC (BW k))):=rfl;have m:=LW k;generalize BW k=r at *;go_wp2_with fail
   refine(qQ r _ m).mono ?_;rintro e N ⟨rfl,rfl⟩;have a:(chi (zK (wF f))).size=25:=by rw[Cy,qC _ (by rw[lO,l])]
   obtain⟨x,hx⟩:∃x,(chi (zK (wF f)))[0]! = x:=⟨_,rfl⟩
   obtain⟨F,I⟩:=bP j 0 oM hx;rw[XA]at F I;have C:Hid ((chi (zK (wF f)))[0]! = x):=hx;clear hx;go_wp2_with fail
   go_region
   go_wp2;go_roundg (gk-1)
   case measure=>omega
   case rel =>
    refine⟨k+1,rcC r,xM f (rcC r),oM,by go_num,rfl,by rw[H.out],?_,?_,?_⟩
    ·exact Holds.drew (Holds.xor (i:=0) j oM C.out (rcC r))
    ·exact((((z.trans s).trans p).trans n).setCell (o:=off) oM oM _).drew
    ·rw[A.out,q.out];rfl
  ·have j:k=24:=oM;subst j;go_wp2
   go_end0
   refine⟨rfl,z,?_⟩;unfold perm;rw[<-q.out];exact y
end SP
namespace SP
attribute [local go_sem] cY dV dZ pB En
theorem FO{w:Uq}{b off:Nat}{d:Bs}(h:Holds encB w b off d)(i:Nat)(k:i<d.size){x:UInt8}(hx:d[i]! = x):
 w.cell? ⟨b,off+i,none⟩=some (.int .u8 (ub x))/\w.frozen? ⟨b,off+i,none⟩=false:=by
 rw[<-hx];exact h i k
theorem word_any(f i o len cap:Nat)(b:Bs)(w:Uq)(j:Holds encB w f i b)(p:8<=len)(ho:o+8<=b.size)(s:len<=4611686018427387904):
 UG prog 247 #[.slice (some ⟨f,i+o,none⟩) len cap] w λe w'=>e=.returned (uZ (u (wordOf b o)))/\w'=w:=by
 go_enter func247,ntmps247;go_wp2
 go_loop [3,5] (λs3 s5=>∃(k:Nat) (c:BitVec 64),k<=8/\s5=iZ k/\s3=uZ (u c)/\Hid (vZ b o k=c)) (λ_ s5=>8-(intOf s5).toNat)
 case atStart=>exact⟨0,0,dC,rfl,rfl,rfl⟩
 case round =>
  obtain⟨k,c,r,rfl,rfl,g⟩:=hrel;by_cases n:k<8
  ·obtain⟨x,hx⟩:∃x,b[o+k]! = x:=⟨_,rfl⟩
   obtain⟨d,m⟩:=FO j (o+k) oM hx;rw[<-WQ]at d;have l:Hid (vZ b o (k+1)=c ||| wide x <<< (8*k)):=by
    show vZ b o k ||| wide b[o+k]! <<< (8*k)=_
    rw[g.out,hx]
   clear hx m;have q:=Iq (wide x) (8*k);have t:(k:Int)<(len:Int):=oM;go_wp2
   go_round
   case rel=>exact⟨k+1,_,oM,by go_num,rfl,l⟩
   case measure=>simp[intOf];omega
  ·have d:k=8:=oM;subst d;go_wp2;go_ret;unfold wordOf;rw[g.out];exact⟨rfl,rfl⟩
theorem MA(b off f j len cap:Nat)(c:Bs)(d:St)(w:Uq)(hd:d.size=25)(y:Holds enc w b off d)(s:Holds encB w f j c)(D:c.size=len)(r:len<=200)(t:len<=cap)
 (i:f≠b\/j+len<=off\/off+25<=j) :
 UG prog 240 #[.pointer (some ⟨b,off,none⟩),.slice (some ⟨f,j,none⟩) len cap] w λe w'=>e=.returned (.tuple #[])/\Only b off 25 w w'/\Holds enc w' b off (kX c d (len/8)):=by
 go_enter func240,ntmps240;go_wp2;go_loopg [8] (len/8) (λg s8 wr=>∃(k:Nat) (i:St),k+g=len/8/\s8=.int .i64 k/\Holds enc wr b off i/\Only b off 25 w wr/\Hid (i=kX c d k))
 case atStart=>exact⟨0,d,oM,rfl,y,Only.refl _ _ _ _,rfl⟩
 case round =>
  obtain⟨k,i,C,rfl,q,n,p⟩:=hrel;have B:i.size=25:=by rw[p.out,mC,hd]
  by_cases a:k<len/8
  ·have m:Holds encB wr f j c:=by
    by_cases l:f=b
    ·subst l;exact Holds.same s n oM
    ·exact Holds.other s n l oM
   obtain⟨x,hx⟩:∃x,i[k]! = x:=⟨_,rfl⟩
   obtain⟨G,I⟩:=bP q k oM hx;have l:Hid (i[k]! = x):=hx;clear hx;have F:(k:Int)<25:=oM;have A:(0:Int)<=(k:Int)*8:=oM;have H:(k:Int)*8<=(len:Int):=oM;have J:((k:Int)*8).toNat=8*k:=oM;have s1:VR.wrap ((k:Int)*8)=(k:Int)*8:=Wr _ oM;have lt:(k:Int)<(len:Int)/8:=oM;go_wp2_with fail
   have z:(cap=8*k)=False:=eq_false oM;have v:Hid (Holds encB wr.drew f j c):=Holds.drew m;have u:Hid (8*k+8<=c.size):=by show _<=_;omega
   clear m;go_region_with (go_at_call 247;refine(word_any f j (8*k) (len-8*k) (cap-8*k) c _ v.out oM u.out oM).mono ?_;rintro e E ⟨rfl,rfl⟩)
   all_goals
    go_wp2;go_roundg (gk-1)
    case measure=>omega
    case rel =>
     refine⟨k+1,bT i k (wordOf c (8*k)),oM,by go_num,?_,?_,?_⟩
     ·exact Holds.drew (Holds.xor q oM l.out _)
     ·exact(n.setCell (o:=off+k) oM oM _).drew
     ·rw[p.out];rfl
  ·have l:k=len/8:=oM;have lt:(len:Int)/8<=(k:Int):=oM;go_wp2
   go_end0
   refine⟨rfl,n,?_⟩;rw[<-l,<-p.out];exact q
theorem slice22:prog.underlying 23=some (.slice 5):=kR
theorem info5:(prog.info? 5).map (λi=>(i.zero,i.size,i.bytes))=some (some (.int .u8 0),1,1):=kR
attribute [local go_sem] NE
theorem sO(b off n:Nat)(d:St)(w:Uq)(hd:d.size=25)(q:Holds enc w b off d)(B:n<=200):
 UG prog 190 #[oZ b off,iZ n] w λe w'=>e=.returned (sZ w.heap.size n n)/\kZ w w'/\Holds encB w' w.heap.size 0 (front d n):=by
 have s:=Holds.lt q oM;have z:=yBE (P:=prog) 23 5 (.int .u8 0) 1 slice22 info5 rfl .i64 .i64 n oM oM;go_enter func190,ntmps190;go_wp2;generalize c:(w.alloc _)=v;go_loopg [11] n (λg s11 wr=>∃(k:Nat) (f:Bs),k+g=n/\s11=iZ k/\Holds encB wr w.heap.size 0 f/\Only w.heap.size 0 n v wr/\Hid (f=gQ d n k))
 case atStart =>
  refine⟨0,_,oM,rfl,?_,Only.refl _ _ _ _,rfl⟩;rw[<-c];exact Holds.made (enc:=encB) w 5 n 0
 case round =>
  obtain⟨k,f,A,rfl,j,l,m⟩:=hrel;have a:f.size=n:=by rw[m.out,mF]
  have u:Holds enc wr b off d:=Holds.other (by rw[<-c];exact Holds.below q ((UQ _ _).alloc (Uv _) _) s) l oM oM;by_cases y:k<n
  ·obtain⟨x,hx⟩:∃x,d[k/8]! = x:=⟨_,rfl⟩
   obtain⟨C,D⟩:=bP u (k/8) oM hx;obtain⟨c1,p⟩:=j k oM;rw[UC]at c1 p;have r:Hid (byteOf d k=low (x >>> (8*(k%8)))):=by show low _=_;rw[hx]
   have t:=Nu x (8*(k%8));go_wp2;go_roundg (gk-1)
   case measure=>omega
   case rel =>
    refine⟨k+1,f.setIfInBounds k (low (x >>> (8*(k%8)))),oM,by go_num,?_,?_,?_⟩
    ·have:=Holds.set j (i:=k) oM (low (x >>> (8*(k%8))));rw[UC]at this;exact this
    ·exact l.setCell (o:=k) oM oM _
    ·show _=(gQ d n k).setIfInBounds k (byteOf d k);rw[r.out,m.out]
  ·have p:k=n:=oM;go_wp2;go_ret;refine⟨rfl,?_,?_⟩
   ·rw[<-c]at l;exact l.fresh
   ·unfold front;rw[m.out,p]at j;exact j
end SP
namespace SP
structure Of where
 x:Nat
 y:Nat
 o:Array Nat
theorem zx(x:BitVec 64):0 ^^^ x=x:=BitVec.zero_xor
end SP
namespace SP
open Go.Sort
def vW:St:=UI 25 0
theorem Gh(j:Nat)(h:j<25):vW[j]! = 0:=by
 have k:j<(UI 25 (0:BitVec 64)).size:=by rw[UO];exact h
 unfold vW;rw[getElem!_pos (UI 25 (0:BitVec 64)) j k,Wv]
end SP
namespace SP
def fill(i:Nat):UInt8:=UL (i%251) ^^^ 165
def lentTo(s:ByteArray):Nat->Bs
 | 0=>s.data++UI 160 0
 | k+1=>(lentTo s k).setIfInBounds (s.size+k) (fill (s.size+k))
def lent(s:ByteArray):Bs:=lentTo s 160
variable {w w1:Uq}{b o n:Nat}
theorem heap_setCells(b:Nat){k:Nat}(c:k≠b):∀(vs:List Us) (p:Nat) (w:Uq),(w.setCells b p vs).heap[k]? = w.heap[k]?
 | [],_,_=>rfl
 | v :: r,p,w=>by rw[World.setCells,heap_setCells b c r (p+1) _,Zr _ _ _ _ c]
theorem Only.setCells(h:Only b o n w w1)(vs:List Us)(p:Nat)(g:o<=p)(e:p+vs.length<=o+n):Only b o n w (w1.setCells b p vs):=by
 have c:=below_setCells (B:=0) (b:=b) (Wx _) vs p w1 (UQ 0 w1);exact h.trans ⟨c.os,c.tape,c.output,c.size,λk _ d=>heap_setCells b d vs p w1,
  λq f=>Z4 b vs p w1 ⟨b,q,none⟩ (λ_ _=>by simp only;omega),λq=>yAf b vs p w1 _⟩
theorem Holds.setCells{d r:Bs}(h:Holds encB w b o d)(vs:List Us)(p:Nat)(f:r.size=d.size)(m:p+vs.length<=d.size)
 (g:∀j (k:j<vs.length),vs[j]=encB r[p+j]!) (c:∀j,j<d.size->j<p\/p+vs.length<=j->r[j]! = d[j]!):Holds encB (w.setCells b (o+p) vs) b o r:=by
 intro j k;rw[f]at k;rw[yAf];refine⟨?_,(h j k).2⟩;by_cases e:j<p\/p+vs.length<=j
 ·rw[Z4 b vs (o+p) w ⟨b,o+j,none⟩ (λ_ _=>by simp only;omega),c j k e];exact(h j k).1
 ·have c:j-p<vs.length:=oM;have:=World.cell?_setCells_in b vs (o+p) w (λi l=>by
   have:=(h (p+i) oM).1;rw[<-WQ]at this;rw[this];rfl) (j-p) c
  rw[show o+p+(j-p)=o+j by omega]at this;rw[this,g (j-p) c,show p+(j-p)=j by omega]
theorem app_front(a r:Bs)(j:Nat)(k:j<a.size):(a++r)[j]! = a[j]:=by
 have h:j<(a++r).size:=by rw[VM];omega
 rw[getElem!_pos (a++r) j h,Z1 k]
theorem app_back(a r:Bs)(j:Nat)(b:a.size<=j)(c:j<a.size+r.size):(a++r)[j]! = r[j-a.size]!:=by
 have h:j<(a++r).size:=by rw[VM];omega
 have k:j-a.size<r.size:=oM;rw[getElem!_pos (a++r) j h,ZW b,getElem!_pos r (j-a.size) k]
theorem rep_at(n j:Nat)(h:j<n):(UI n (0:UInt8))[j]! = 0:=by
 have k:j<(UI n (0:UInt8)).size:=by rw[UO];exact h
 rw[getElem!_pos (UI n (0:UInt8)) j k,Wv]
theorem size_of5(P:Program)(e:U7)(h:(P.info? e).map (·.size)=some 1):∀w,(yAa e).run P w=.ok 1 w:=by
 intro w;cases k:P.info? e with
 | none=>simp[k]at h
 | some i =>
  simp[k]at h;simp[yAa,typeInfo,k,h]
theorem conv_str(P:Program)(src k e:U7)(l:P.underlying src=some (.slice e))(i:P.underlying e=some (.int .u8))(hd:P.underlying k=some .string)
 (w:Uq) (b o n cap:Nat) (c:Bs) (q:Holds encB w b o c) (m:c.size=n):(convert src k (.slice (some ⟨b,o,none⟩) n cap)).run P w=.ok (.string ⟨c⟩) w:=by
 have h:=run_convert_bytes_back (P:=P) w src k e ⟨b,o,none⟩ cap c.toList l i hd (λj p=>by
  have d:j<c.size:=by simpa using p
  have g:=(q j d).1;rw[getElem!_pos c j d]at g;have r:(⟨b,o,none⟩:Wt).add j=⟨b,o+j,none⟩:=by
   unfold Zi;by_cases f:j=0
   ·subst f;rfl
   ·rw[yCk f]
  rw[r,g];simp[encB,ub])
 simpa[m]using h
end SP
namespace SP
theorem int5:prog.underlying 5=some (.int .u8):=kR
theorem str9:prog.underlying 9=some .string:=kR
theorem size5:∀w,(yAa 5).run prog w=.ok 1 w:=size_of5 prog 5 kR
end SP
namespace SP
open Go.Sort
theorem low_bit(v:BitVec 64)(i:Nat)(h:i<8):(low v).toNat.testBit i=v.getLsbD i:=by
 unfold low;rw[YH,Nat.testBit_mod_two_pow,BitVec.getLsbD];simp[h]
theorem DT(d:St)(n k j:Nat)(e:k<=n)(b:j<n):(gQ d n k)[j]! = if j<k then byteOf d j else 0:=by
 induction k with
 | zero =>
  have c:j<(UI n (0:UInt8)).size:=by rw[UO];exact b
  rw[gQ,getElem!_pos (UI n (0:UInt8)) j c,Wv,yCk oM]
 | succ k ih =>
  rw[gQ];by_cases h:j=k
  ·subst h;rw[getElem!_set_same _ _ _ (by rw[mF];exact b),yCj oM]
  ·rw[getElem!_set_other _ _ _ _ h,ih oM];by_cases c:j<k
   ·rw[yCj c,yCj oM]
   ·rw[yCk c,yCk oM]
theorem Ju(d:St)(n j:Nat)(k:j<n):(front d n)[j]! = byteOf d j:=by
 unfold front;rw[DT d n n j (Uv _) k,yCj k]
/-! ### The sponge, byte by byte -/
structure Sp where
  d : St
  p : Bs
  h : Nat
structure Ok(S:Sp):Prop where
 d25:S.d.size=25
 p136:S.p.size=136
 hlt:S.h<136
def jV(S:Sp):Sp:={ d:=perm (kX S.p S.d 17),p:=S.p,h:=0 }
def Dt(S:Sp)(x:UInt8):Sp:=
 if S.h+1=136 then jV { d:=S.d,p:=S.p.setIfInBounds S.h x,h:=S.h } else { d:=S.d,p:=S.p.setIfInBounds S.h x,h:=S.h+1 }
def fU(S:Sp)(l:List UInt8):Sp:=l.foldl Dt S
def splice(p:Bs):Nat->List UInt8->Bs
 | _,[]=>p
 | i,x :: r=>splice (p.setIfInBounds i x) (i+1) r
theorem lP(S:Sp)(a b:List UInt8):fU S (a++b)=fU (fU S a) b:=List.foldl_append
theorem dM(p:Bs)(i:Nat)(l:List UInt8):(splice p i l).size=p.size:=by
 induction l generalizing p i with
 | nil=>rfl
 | cons x r ih=>rw[splice,ih,VE]
theorem kO(p:Bs)(i:Nat)(l:List UInt8)(j:Nat)(c:i+l.length<=p.size)(k:j<p.size):(splice p i l)[j]! = if i<=j/\j<i+l.length then l[j-i]! else p[j]!:=by
 induction l generalizing p i with
 | nil=>simp[splice];omega
 | cons x r ih =>
  simp only[Vh]at c;rw[splice,ih _ _ (by rw[VE];omega) (by rw[VE];exact k)];by_cases h:j=i
  ·subst h;rw[yCk oM,getElem!_set_same _ _ _ k,yCj (by simp),YU];rfl
  ·rw[getElem!_set_other _ _ _ _ h];by_cases b:i+1<=j/\j<i+1+r.length
   ·rw[yCj b,yCj (by simp;omega),show j-i=(j-(i+1))+1 by omega];rfl
   ·rw[yCk b,yCk (by simp;omega)]
theorem nU(d:St)(p:Bs)(h:Nat):jV ⟨d,p,h⟩=⟨perm (kX p d 17),p,0⟩:=by unfold jV;rfl
theorem LC(S:Sp):(jV S).d=perm (kX S.p S.d 17):=by
 obtain⟨d,p,h⟩:=S;rw[nU]
theorem Lz(S:Sp):(jV S).p=S.p:=by
 obtain⟨d,p,h⟩:=S;rw[nU]
theorem LA(S:Sp):(jV S).h=0:=by
 obtain⟨d,p,h⟩:=S;rw[nU]
theorem Ly{S:Sp}(b:S.d.size=25)(k:S.p.size=136):Ok (jV S):=by
 have hd:(kX S.p S.d 17).size=25:=by rw[mC,b]
 refine⟨?_,by rw[Lz,k],?_⟩
 ·rw[LC];exact sE _ hd
 ·rw[LA];decide
theorem LX{S:Sp}(h:Ok S)(x:UInt8):Ok (Dt S x):=by
 have:=h.hlt;unfold Dt;by_cases e:S.h+1=136
 ·rw[yCj e];exact Ly h.d25 (by show(S.p.setIfInBounds _ _).size=136;rw[VE];exact h.p136)
 ·rw[yCk e];exact⟨h.d25,by show(S.p.setIfInBounds _ _).size=136;rw[VE];exact h.p136,by show S.h+1<136;omega⟩
theorem jD{S:Sp}(h:Ok S)(l:List UInt8):Ok (fU S l):=by
 induction l generalizing S with
 | nil=>exact h
 | cons x r ih=>exact ih (LX h x)
theorem tN(S:Sp)(l:List UInt8)(c:l≠[])(k:S.h+l.length<=136):
 fU S l=if S.h+l.length=136 then jV { d:=S.d,p:=splice S.p S.h l,h:=S.h } else { d:=S.d,p:=splice S.p S.h l,h:=S.h+l.length }:=by
 induction l generalizing S with
 | nil=>exact absurd rfl c
 | cons x r ih =>
  show fU (Dt S x) r=_;simp only[Vh]at k⊢;cases r with
  | nil =>
   unfold Dt fU splice;simp only[List.foldl_nil,List.length_nil];by_cases e:S.h+1=136
   ·rw[yCj e,yCj oM];rfl
   ·rw[yCk e,yCk oM];rfl
  | cons y r' =>
   have e:¬S.h+1=136:=by simp only[Vh]at k;omega
   have f:Dt S x = { d:=S.d,p:=S.p.setIfInBounds S.h x,h:=S.h+1 }:=by unfold Dt;rw[yCk e]
   rw[f,ih _ (by simp) (by simp only[Vh]at k⊢;omega)];simp only[splice,Vh];by_cases b:S.h+(r'.length+1+1)=136
   ·rw[yCj oM,yCj b];rfl
   ·rw[yCk oM,yCk b,show S.h+1+(r'.length+1)=S.h+(r'.length+1+1) by omega]
/-! ### The end -/
def ended(p : Bs)(h : Nat)(e : UInt8): Bs:=
  let q:=(splice p h (VA (136-h) 0)).setIfInBounds h e
  q.setIfInBounds 135 (q[135]! ^^^ 128)
def sQ(S:Sp)(e:UInt8):Sp:=jV { d:=S.d,p:=ended S.p S.h e,h:=S.h }
def jT(h:Nat)(e:UInt8):List UInt8:=
 (e :: VA (135-h) 0).set (135-h) ((e :: VA (135-h) 0)[135-h]! ^^^ 128)
theorem fM(h:Nat)(e:UInt8)(hh:h<136):(jT h e).length=136-h:=by
 unfold jT;rw[List.length_set,Vh,Xe];omega
theorem P7(a b:Bs)(n:Nat)(e:a.size=n)(d:b.size=n)(h:∀j,j<n->a[j]! = b[j]!):a=b:=by
 apply Array.ext oM;intro i c k;have:=h i oM;rwa[getElem!_pos a i c,getElem!_pos b i k]at this
theorem OZ(h:Nat)(e:UInt8)(j:Nat)(c:j<136-h)(hh:h<136):(jT h e)[j]! = (if j=0 then e else 0) ^^^ (if j=135-h then 128 else 0):=by
 have f:∀j,j<136-h->(e :: VA (135-h) (0:UInt8))[j]! = if j=0 then e else 0:=by
  intro j c;cases j with
  | zero=>rfl
  | succ j =>
   have b:j+1<(e :: VA (135-h) (0:UInt8)).length:=by rw[Vh,Xe];omega
   rw[getElem!_pos (e :: VA (135-h) (0:UInt8)) (j+1) b];simp
 have k:=fM h e hh;have b:j<(e :: VA (135-h) (0:UInt8)).length:=by rw[Vh,Xe];omega
 rw[getElem!_pos (jT h e) j (by rw[k];exact c)];unfold jT;rw[List.getElem_set];by_cases d:135-h=j
 ·rw[yCj d,f (135-h) oM,d,yCj (rfl:j=j)]
 ·rw[yCk d,yCk (show ¬j=135-h by omega)];have:=f j c;rw[getElem!_pos (e :: VA (135-h) (0:UInt8)) j b]at this;rw[this];simp
theorem DW(p:Bs)(h:Nat)(e:UInt8):(ended p h e).size=p.size:=by
 unfold ended;simp only[VE,dM]
theorem BR(n j:Nat)(h:j<n):(VA n (0:UInt8))[j]! = 0:=by
 rw[getElem!_pos _ j (by simpa using h)];simp
theorem JE(p:Bs)(h:Nat)(e:UInt8)(c:p.size=136)(hh:h<136):ended p h e=splice p h (jT h e):=by
 have i:(splice p h (VA (136-h) 0)).size=136:=by rw[dM,c]
 refine P7 _ _ 136 (by rw[DW,c]) (by rw[dM,c]) (λj d=>?_);have f:∀j,j<136->((splice p h (VA (136-h) 0)).setIfInBounds h e)[j]! = if j<h then p[j]! else if j=h then e else 0:=by
  intro j d;by_cases k:j=h
  ·rw[k,getElem!_set_same _ _ _ oM,yCk oM,yCj rfl]
  ·rw[getElem!_set_other _ _ _ _ k,kO _ _ _ _ (by rw[Xe,c];omega) oM,Xe];by_cases b:j<h
   ·rw[yCk oM,yCj b]
   ·rw[yCj oM,yCk b,yCk k,BR _ _ oM]
 have hR:(splice p h (jT h e))[j]! = if j<h then p[j]! else(if j=h then e else 0) ^^^ (if j=135 then 128 else 0):=by
  rw[kO _ _ _ _ (by rw[fM h e hh,c];omega) oM,fM h e hh];by_cases b:j<h
  ·rw[yCk (show ¬(h<=j/\j<h+(136-h)) by omega),yCj b]
  ·rw[yCj (show h<=j/\j<h+(136-h) by omega),yCk b,OZ h e _ oM hh];have g:(j-h=0)=(j=h):=by apply propext;omega
   have k:(j-h=135-h)=(j=135):=by apply propext;omega
   simp only[g,k]
 have g:(ended p h e)[j]! = if j<h then p[j]! else(if j=h then e else 0) ^^^ (if j=135 then 128 else 0):=by
  unfold ended;by_cases k:j=135
  ·rw[k,getElem!_set_same _ _ _ (by rw[VE,i];decide),f 135 dC,yCk (show ¬135<h by omega),yCk (show ¬135<h by omega),yCj (rfl:135=135)]
  ·rw[getElem!_set_other _ _ _ _ k,f j d];by_cases b:j<h
   ·rw[yCj b,yCj b]
   ·rw[yCk b,yCk b,yCk k];simp
 rw[g,hR]
theorem GN{S:Sp}(h:Ok S)(e:UInt8):sQ S e=fU S (jT S.h e):=by
 have:=h.hlt;have k:=fM S.h e h.hlt;rw[tN S _ (by intro c;rw[c]at k;simp at k;omega) oM,yCj oM];unfold sQ;rw[JE _ _ _ h.p136 h.hlt]
end SP
namespace SP
theorem Only.widen{b o n k c:Nat}{w w':Uq}(h:Only b o n w w')(f:k<=o)(d:o+n<=k+c):Only b k c w w':=
 ⟨h.os,h.tape,h.output,h.size,h.block,λq e=>h.cell q oM,h.froz⟩
structure HSp(w:Uq)(b:Nat)(S:Sp):Prop where
 d:Holds enc w b 0 S.d
 p:Holds encB w b 25 S.p
 h:w.cell? ⟨b,161,none⟩=some (iZ (S.h:Int))
 f:w.frozen? ⟨b,161,none⟩=false
theorem HSp.drew{w:Uq}{b:Nat}{S:Sp}(h:HSp w b S):HSp w.drew b S:=⟨h.d,h.p,h.h,h.f⟩
theorem HSp.lt{w:Uq}{b:Nat}{S:Sp}(h:HSp w b S):b<w.heap.size:=Xn _ _ h.h
theorem HSp.below{w w':Uq}{b B:Nat}{S:Sp}(h:HSp w b S)(k:Below B w w')(c:b<B):HSp w' b S:=
 ⟨Holds.below h.d k c,Holds.below h.p k c,by rw[k.cell (p:=⟨b,161,none⟩) c];exact h.h,by rw[k.frozen (p:=⟨b,161,none⟩) c];exact h.f⟩
theorem wI(b:Nat)(S:Sp)(w:Uq)(c:S.d.size=25)(g:S.p.size=136)(o:HSp w b S):
 UG prog 225 #[.pointer (some ⟨b,0,none⟩)] w λe w'=>e=.returned (.tuple #[])/\Only b 0 162 w w'/\HSp w' b (jV S):=by
 obtain⟨d,p,h⟩:=S;dsimp only at c g;have C:Holds enc w b 0 d:=o.d;have a:Holds encB w b 25 p:=o.p;have A:=o.h;have hf:=o.f;dsimp only at A;rw[nU];clear o;have t:(perm (kX p d 17)).size=25:=sE _ (by rw[mC,c]);generalize l:perm (kX p d 17)=D at t⊢;have z:Hid (perm (kX p d 17)=D):=l;clear l;go_enter func225,ntmps225;go_wp2;go_still_tail 7,mixed;go_wp2_with fail
 refine(MA b 0 b 25 136 136 p d _ c (Holds.drew C) (Holds.drew a) g dC (Uv _) oM).mono ?_;rintro e s ⟨rfl,m,q⟩;have k:Only b 0 25 w s:=((Only.refl b 0 25 w).drew).trans m;have j:Holds enc s b 0 (kX p d 17):=q;have u:=Holds.same a k oM;have c1:s.cell? ⟨b,161,none⟩=some (.int .i64 h):=by rw[k.cell 161 oM];exact A
 have B:s.frozen? ⟨b,161,none⟩=false:=by rw[k.froz];exact hf
 clear m q;go_wp2_with fail
 refine(tW b 0 _ _ (by rw[mC,c]) j).mono ?_;rintro e n ⟨rfl,f,r⟩;rw[z.out]at r;have v:=Holds.same u f oM;have c2:n.cell? ⟨b,161,none⟩=some (.int .i64 h):=by rw[f.cell 161 oM];exact c1
 have f2:n.frozen? ⟨b,161,none⟩=false:=by rw[f.froz];exact B
 go_wp2
 go_end0
 have i:Only b 161 1 n (n.setCell ⟨b,161,none⟩ (.int .i64 0)):=(Only.refl b 161 1 n).setCell oM oM _;have x:=Holds.same r i (U3 oM);have y:=Holds.same v i (U3 oM);exact⟨rfl,((k.trans f).widen (Uv _) oM).trans (i.widen oM oM),⟨x,y,VU _ _ _ c2,by rw[VK];exact f2⟩⟩
theorem ints5:(prog.info? 5).map (·.size)=some 1:=kR
theorem iO{w:Uq}{b o:Nat}{p:Bs}(h:Holds encB w b o p)(i:Nat)(l:List UInt8)(d:i+l.length<=p.size):Holds encB (w.setCells b (o+i) (l.map encB)) b o (splice p i l):=by
 refine Holds.setCells h _ i (dM p i l) (by rw[UP];exact d) (λj c=>?_) (λj c k=>?_)
 ·rw[UP]at c;rw[kO p i l (i+j) d oM,yCj oM,WJ,getElem!_pos l j c,Xc]
 ·rw[UP]at k;rw[kO p i l j d c,yCk oM]
def piece(b:Bs)(k n:Nat):List UInt8:=(b.toList.drop k).take n
theorem qW(b:Bs)(k n:Nat)(h:k+n<=b.size):(piece b k n).length=n:=by
 unfold piece;rw[List.length_take,List.length_drop,UJ];omega
theorem piece_at(b:Bs)(k n j:Nat)(h:k+n<=b.size)(c:j<n)(d:j<(piece b k n).length):(piece b k n)[j]=b[k+j]!:=by
 have e:(piece b k n)[j]? = some b[k+j]!:=by
  unfold piece;rw[List.getElem?_take_of_lt c,List.getElem?_drop,Vo,UZ oM,getElem!_pos b (k+j) oM]
 exact(UE.1 e).2
theorem Da(b:Bs)(k n:Nat):b.toList.take (k+n)=b.toList.take k++piece b k n:=List.take_add
theorem D2{w:Uq}{b h e o len cap n:Nat}{p d:Bs}{k:Nat}(i:Holds encB w b 25 p)(a:p.size=136)(s:Holds encB w e o d)(hh:h<136)(z:k+len<=d.size)(g:XO len (136-h)=n):
 (XY #[23,23] 3 #[.slice (some ⟨b,25+h,none⟩) (136-h) (136-h),.slice (some ⟨e,o+k,none⟩) len cap]).run prog w=.ok (goInt n) (w.setCells b (25+h) ((piece d k n).map encB)):=by
 have r:n<=len:=by rw[<-g];exact Z7 _ _
 have y:n<=136-h:=by rw[<-g];exact ZX _ _
 have c:((piece d k n).map encB).length=n:=by rw[UP,qW d k n oM]
 have:=run_copy_cells (P:=prog) w 23 23 3 5 b (25+h) (136-h) (136-h) ⟨e,o+k,none⟩ len cap ((piece d k n).map encB) slice22 ints5 (by rw[c,g])
  (λj v f=>by
   obtain⟨q,m⟩:=UE.1 f;rw[c]at q;have u:=(s (k+j) oM).1;rw[Xc,piece_at d k n j oM q]at m;have t:(⟨e,o+k,none⟩:Wt).add j=⟨e,o+(k+j),none⟩:=by
    unfold Zi;by_cases l:j=0
    ·subst l;rw[yCj rfl];rfl
    ·rw[yCk l,WQ]
   rw[t,u,m])
  (λj f=>by
   rw[c]at f;have:=(i (h+j) oM).1;rw[<-WQ]at this;rw[this];rfl)
  (λj f=>by
   rw[c]at f;have:=(i (h+j) oM).2;rw[<-WQ]at this;exact this)
  (λv hv=>by
   obtain⟨x,_,rfl⟩:=Vm.1 hv;rfl)
 rw[c]at this;exact this
theorem rE{w:Uq}{b:Nat}{d:St}{p:Bs}{v:Us}(l:Holds enc w b 0 d)(i:d.size=25)(g:Holds encB w b 25 p)(f:p.size=136)(j:w.cell? ⟨b,161,none⟩=some v)(hf:w.frozen? ⟨b,161,none⟩=false)(m:Nat):
 HSp (w.setCell ⟨b,161,none⟩ (iZ ((m:Nat):Int))) b ⟨d,p,m⟩:=by
 have e:Only b 161 1 w (w.setCell ⟨b,161,none⟩ (iZ ((m:Nat):Int))):=(Only.refl b 161 1 w).setCell oM oM _;have k:=Holds.same l e (U3 oM);have c:=Holds.same g e (U3 oM);exact⟨k,c,VU _ _ _ j,by rw[VK];exact hf⟩
theorem take_any(b:Nat)(S:Sp)(a:Option Wt)(u A len cap:Nat)(d:Bs)(w:Uq)(N:Ok S)(hS:HSp w b S)(hl:d.size=len)(h2:len<=cap)(h3:len<=1099511627776)
 (c:len=0\/(a=some ⟨u,A,none⟩/\u≠b/\Holds encB w u A d)) :
 UG prog 224 #[.pointer (some ⟨b,0,none⟩),.slice a len cap] w λe w'=>e=.returned (.tuple #[])/\Only b 0 162 w w'/\HSp w' b (fU S d.toList):=by
 go_enter func224,ntmps224;go_wp2;go_loopg [1] len (λg s1 wr=>∃(k:Nat) (O:Option Wt) (j:Sp),k+g=len/\s1=.slice O (len-k) (cap-k)/\(k<len->O=some ⟨u,A+k,none⟩)/\HSp wr b j/\Only b 0 162 w wr/\Hid (j=fU S (d.toList.take k)))
 case atStart =>
  refine⟨0,a,S,oM,rfl,λf=>?_,hS,Only.refl _ _ _ _,rfl⟩;rcases c with h|⟨h,_,_⟩
  ·omega
  ·exact h
 case round =>
  obtain⟨k,O,j,hk,rfl,h1,l,T,W⟩:=hrel;by_cases U:k<len
  ·have R:=h1 U;subst R;obtain⟨_,Z,hB⟩:a=some ⟨u,A,none⟩/\u≠b/\Holds encB w u A d:=by
    rcases c with h|h
    ·omega
    ·exact h
   have G:=Holds.other hB T Z oM;have i:Ok j:=by rw[W.out];exact jD N _
   obtain⟨q,hh⟩:∃q,j.h=q:=⟨_,rfl⟩
   have r:=i.hlt;have D:=i.p136;rw[hh]at r;have hc:=l.h;have hf:=l.f;rw[hh]at hc;have V:=l.p;obtain⟨n,J⟩:∃n,XO (len-k) (136-q)=n:=⟨_,rfl⟩
   have l0:(0:Int)<((len-k:Nat):Int):=oM;have Y:(q:Int)<=136:=oM;have Hh:Hid (j.h=q):=hh;clear hh;have M:=eq_false oM;have h4:1<=n:=by rw[<-J];exact(Nat.le_min).2 ⟨oM,oM⟩
   have h5:n<=len-k:=by rw[<-J];exact Z7 _ _
   have h6:n<=136-q:=by rw[<-J];exact ZX _ _
   have X:=D2 (w:=wr.drew) (cap:=cap-k) (k:=k) V D G r oM J;have x:=qW d k n oM;have s:=iO (Holds.drew V) q (piece d k n) oM;have v:Only b 0 162 w (wr.drew.setCells b (25+q) ((piece d k n).map encB)):=T.drew.setCells _ _ oM (by rw[UP];omega);have z:Only b 25 136 wr (wr.drew.setCells b (25+q) ((piece d k n).map encB)):=((Only.refl b 25 136 wr).drew).setCells _ _ oM (by rw[UP];omega);have t:=Holds.same l.d z (U3 (by rw[i.d25];omega));have c1:(wr.drew.setCells b (25+q) ((piece d k n).map encB)).cell? ⟨b,161,none⟩=some (.int .i64 q):=by rw[z.cell 161 oM];exact hc
   have K:(wr.drew.setCells b (25+q) ((piece d k n).map encB)).frozen? ⟨b,161,none⟩=false:=by rw[z.froz];exact hf
   have L:Hid (fU S (d.toList.take (k+n))=fU j (piece d k n)):=by
    show _=_;rw[Da,lP,<-W.out]
   have f:Hid (fU j (piece d k n)=if q+n=136 then jV ⟨j.d,splice j.p q (piece d k n),q⟩ else⟨j.d,splice j.p q (piece d k n),q+n⟩):=by
    show _=_;have:=tN j (piece d k n) (by intro e;rw[e]at x;simp at x;omega) (by rw[x,Hh.out];omega);rw[x,Hh.out]at this;exact this
   have p:(splice j.p q (piece d k n)).size=136:=by rw[dM,D]
   have m:=i.d25;generalize Q:wr.drew.setCells b (25+q) ((piece d k n).map encB)=W1 at X s v t c1 K;generalize splice j.p q (piece d k n)=F at s p f;generalize j.d=E at t m f;clear z Q V G i x l D J;have z1:(n:Int)<=((len-k:Nat):Int):=oM;by_cases B:cap-k=n
   ·have H:(cap-k=n)=True:=eq_true B;have I:Hid (cap-k=n):=B;clear B;by_cases c:q+n=136
    ·have P:((q:Int)+(n:Int) == 136)=true:=beq_iff_eq.2 oM;rw[yCj c]at f;go_wp2_with fail
     go_still_tail 9,mixed;go_wp2_with fail
     refine(wI b ⟨E,F,q+n⟩ _ m p (rE t m s p c1 K (q+n))).mono ?_;rintro e w2 ⟨rfl,C,y⟩;go_wp2;go_roundg (gk-n)
     case measure=>omega
     case rel =>
      refine⟨k+n,some ⟨u,A+k,none⟩,jV ⟨E,F,q⟩,oM,by rw[Yk,Yk],λhx=>by have:=I.out;omega,?_,?_,?_⟩
      ·rw[nU]at y⊢;exact y
      ·exact(v.setCell (o:=161) oM oM _).trans C
      ·rw[L.out,f.out];rfl
    ·have P:=beq_eq_false_iff_ne.2 oM;rw[yCk c]at f;go_wp2_with fail
     go_still_tail 9,mixed;go_wp2;go_roundg (gk-n)
     case measure=>omega
     case rel =>
      refine⟨k+n,some ⟨u,A+k,none⟩,⟨E,F,q+n⟩,oM,by rw[Yk,Yk],λhx=>by have:=I.out;omega,?_,?_,?_⟩
      ·exact rE t m s p c1 K (q+n)
      ·exact v.setCell (o:=161) oM oM _
      ·rw[L.out,f.out];rfl
   ·have H:=eq_false B;by_cases c:q+n=136
    ·have P:=beq_iff_eq.2 oM;rw[yCj c]at f;go_wp2_with fail
     go_still_tail 9,mixed;go_wp2_with fail
     refine(wI b ⟨E,F,q+n⟩ _ m p (rE t m s p c1 K (q+n))).mono ?_;rintro e w2 ⟨rfl,C,y⟩;go_wp2;go_roundg (gk-n)
     case measure=>omega
     case rel =>
      refine⟨k+n,some ⟨u,A+k+n,none⟩,jV ⟨E,F,q⟩,oM,by rw[Yk,Yk],λ_=>by rw[WQ],?_,?_,?_⟩
      ·rw[nU]at y⊢;exact y
      ·exact(v.setCell (o:=161) oM oM _).trans C
      ·rw[L.out,f.out];rfl
    ·have P:=beq_eq_false_iff_ne.2 oM;rw[yCk c]at f;go_wp2_with fail
     go_still_tail 9,mixed;go_wp2;go_roundg (gk-n)
     case measure=>omega
     case rel =>
      refine⟨k+n,some ⟨u,A+k+n,none⟩,⟨E,F,q+n⟩,oM,by rw[Yk,Yk],λ_=>by rw[WQ],?_,?_,?_⟩
      ·exact rE t m s p c1 K (q+n)
      ·exact v.setCell (o:=161) oM oM _
      ·rw[L.out,f.out];rfl
  ·have c:k=len:=oM;go_wp2
   go_end0
   refine⟨rfl,T,?_⟩;have R:d.toList.take k=d.toList:=Y9 (by rw[UJ];omega);rw[W.out,R]at l;exact l
theorem rA(x:UInt8):Xa 8 (x.toNat:Int)=x.toBitVec:=by
 apply yAi;rw[Zc,YE];exact UR x.toNat_lt
theorem Aj(x y:UInt8):bits .xor .u8 (ub x) (ub y)=ub (x ^^^ y):=by
 show Xx.wrap ((Xa 8 (x.toNat:Int) ^^^ Xa 8 (y.toNat:Int)).toNat:Int)=_;rw[rA,rA,<-UInt8.toBitVec_xor];have h:((x ^^^ y).toNat:Int)<256:=by have:=(x ^^^ y).toNat_lt;omega
 have e:∀n:Int,Xx.wrap n=n%256:=λn=>by simp[yBh,yBi,yAR]
 rw[e];exact yA5 (Int.natCast_nonneg _) h
theorem Qs(x:UInt8):bits .xor .u8 (ub x) 128=ub (x ^^^ 128):=Aj x 128
theorem Qr:∀w:Uq,(zeroValue 5).run prog w=.ok (.int .u8 0) w:=λ_=>kR
theorem Cx{w:Uq}{b q:Nat}{p:Bs}(k:Holds encB w b 25 p)(f:p.size=136)(e:q<136)(c:U7):
 (Builtin.clear_ #[23] c #[.slice (some ⟨b,25+q,none⟩) (136-q) (136-q)]).run prog w=.ok (.tuple #[]) (w.setCells b (25+q) ((VA (136-q) (0:UInt8)).map encB)):=by
 have h:=Lib.run_clear_slice (P:=prog) w 23 5 c (.int .u8 0) slice22 Qr rfl rfl b (25+q) (136-q) (136-q) oM
  (λj d=>by
   have:=(k (q+j) oM).1;rw[<-WQ]at this;rw[this];rfl)
  (λj d=>by
   have:=(k (q+j) oM).2;rw[<-WQ]at this;exact this)
 rw[List.map_replicate];exact h
theorem Fw(b:Nat)(S:Sp)(e:UInt8)(w:Uq)(l:Ok S)(A:HSp w b S):
 UG prog 189 #[.pointer (some ⟨b,0,none⟩),.int .u8 (ub e)] w λr w'=>r=.returned (.tuple #[])/\Only b 0 162 w w'/\HSp w' b (sQ S e):=by
 obtain⟨d,p,q⟩:=S;have J:d.size=25:=l.d25;have m:p.size=136:=l.p136;have U:q<136:=l.hlt;have W:Holds enc w b 0 d:=A.d;have E:Holds encB w b 25 p:=A.p;have R:w.cell? ⟨b,161,none⟩=some (.int .i64 q):=A.h;have hf:=A.f;have a:=Cx (Holds.drew E) m U 0;have t:Only b 25 136 w (w.drew.setCells b (25+q) ((VA (136-q) (0:UInt8)).map encB)):=((Only.refl b 25 136 w).drew).setCells _ _ oM (by rw[UP,Xe];omega);have g:=iO (Holds.drew E) q (VA (136-q) (0:UInt8)) (by rw[Xe];omega);have z:(splice p q (VA (136-q) 0)).size=136:=by rw[dM,m]
 have v:Hid (sQ ⟨d,p,q⟩ e=jV ⟨d,((splice p q (VA (136-q) 0)).setIfInBounds q e).setIfInBounds 135 (((splice p q (VA (136-q) 0)).setIfInBounds q e)[135]! ^^^ 128),q⟩):=by
  show _=_;unfold sQ ended;rfl
 generalize w.drew.setCells b (25+q) ((VA (136-q) (0:UInt8)).map encB)=D at a t g;generalize splice p q (VA (136-q) 0)=V at g z v;have C:(136=q)=False:=eq_false oM;have I:(q:Int)<=136:=oM;have B:(q:Int)<136:=oM;have c1:D.cell? ⟨b,161,none⟩=some (.int .i64 q):=by rw[t.cell 161 oM];exact R
 obtain⟨c2,f2⟩:=g q oM;obtain⟨k,c⟩:∃s,V.setIfInBounds q e=s:=⟨_,rfl⟩
 rw[c]at v;have K:k.size=136:=by rw[<-c,VE,z]
 obtain⟨x,hx⟩:∃x,k[135]! = x:=⟨_,rfl⟩
 rw[hx]at v;have P:=Qs x;have u:=Holds.set g (i:=q) oM e;rw[c]at u;have y:Only b 25 136 w (D.setCell ⟨b,25+q,none⟩ (.int .u8 (ub e))):=t.setCell (o:=25+q) oM oM _;have j:Holds encB (D.setCell ⟨b,25+q,none⟩ (.int .u8 (ub e))) b 25 k:=u;have T:Hid (k[135]! = x):=hx;rw[v.out];clear A l E c hx u v;have G:(k.setIfInBounds 135 (x ^^^ 128)).size=136:=by rw[VE,K]
 go_enter func189,ntmps189;go_wp2;go_still_tail 8,mixed;go_wp2_with fail
 go_region
 go_wp2_with fail
 generalize D.setCell ⟨b,25+q,none⟩ (.int .u8 (ub e))=O at j y⊢;obtain⟨X,Y⟩:=FO j 135 oM T.out;clear c1 c2 f2 a g;go_region
 go_wp2_with fail
 have M:=Holds.set j (i:=135) oM (x ^^^ 128);have f:Only b 25 136 w (O.setCell ⟨b,160,none⟩ (.int .u8 (ub (x ^^^ 128)))):=y.setCell (o:=160) oM oM _;have n:Holds encB (O.setCell ⟨b,160,none⟩ (.int .u8 (ub (x ^^^ 128)))) b 25 (k.setIfInBounds 135 (x ^^^ 128)):=M;generalize O.setCell ⟨b,160,none⟩ (.int .u8 (ub (x ^^^ 128)))=Q at n f⊢;have N:Holds enc Q b 0 d:=Holds.same W f (U3 oM);have F:HSp Q b ⟨d,k.setIfInBounds 135 (x ^^^ 128),q⟩:=⟨N,n,by rw[f.cell 161 oM];exact R,by rw[f.froz];exact hf⟩
 refine(wI b ⟨d,k.setIfInBounds 135 (x ^^^ 128),q⟩ _ J G F.drew.drew).mono ?_;rintro r Z ⟨rfl,L,H⟩;go_wp2
 go_end0
 exact⟨rfl,(f.drew.drew.widen oM oM).trans L,H⟩
end SP
namespace SP
open Go.Sort
def gW(d:St):Nat->St
 | 0=>d
 | m+1=>perm (gW d m)
theorem dQ(d:St)(hd:d.size=25)(m:Nat):(gW d m).size=25:=by
 induction m with
 | zero=>exact hd
 | succ m ih=>exact sE _ ih
def jE(d:St)(j:Nat):UInt8:=byteOf (gW d (j/136)) (j%136)
def lS(d:St)(n:Nat):Bs:=Array.ofFn (λi:Fin n=>jE d i.val)
theorem lQ(d:St)(n:Nat):(lS d n).size=n:=by simp[lS]
theorem Df(d:St)(n j:Nat)(k:j<n):(lS d n)[j]! = jE d j:=by
 rw[getElem!_pos (lS d n) j (by rw[lQ];exact k)];simp[lS]
def S0:Sp:=⟨vW,UI 136 0,0⟩
theorem CS:Ok S0:=⟨by simp[S0,vW],by simp[S0],dC⟩
def yU(l:List UInt8)(e:UInt8):St:=(sQ (fU S0 l) e).d
theorem uI(l:List UInt8)(e:UInt8):(yU l e).size=25:=by
 unfold yU;have h:=jD CS l;rw[GN h];exact(jD h _).d25
def Jl(l:List UInt8):Bs:=front (yU l 6) 32
def qM(l:List UInt8)(n:Nat):Bs:=lS (yU l 31) n
end SP
namespace SP
theorem uH{w:Uq}{g l cap r k n c:Nat}{cur f:Bs}(y:Holds encB w g 0 cur)(D:cur.size=cap)(a:Holds encB w r 0 f)(z:f.size=n)(p:k=n)(e:l+n<=cap)(q:U7):
 (Vr #[23,23] q #[sZ g l cap,sZ r k c]).run prog w=.ok (sZ g (l+n) cap) (w.setCells g l (f.toList.map encB)):=by
 subst p;obtain⟨i,B,_,d,_⟩:=info_parts info5;have b:(f.toList.map encB).length=k:=by rw[UP,UJ,z]
 have o:Src prog i.size 23 (sZ r k c) k (f.toList.map encB) w:=by
  rw[d];refine Src.ofSlice w slice22 (aZ r) k c _ (by rw[b,XQ]) (λj v m=>?_) (λv hv=>?_)
  ·obtain⟨C,t⟩:=UE.1 m;rw[b]at C;have u:=(a j oM).1;rw[getElem!_pos f j oM]at u;rw[Xc,XD]at t;have A:(⟨r,0,none⟩:Wt).add j=⟨r,0+j,none⟩:=by
    unfold Zi;by_cases s:j=0
    ·subst s;rw[yCj rfl]
    ·rw[yCk s]
   rw[A,u,t]
  ·obtain⟨x,_,rfl⟩:=Vm.1 hv;rfl
 have h:=run_append_room_src (P:=prog) w 23 23 q 5 i slice22 B g 0 l cap (sZ r k c) k _ o e
  (λj m=>by
   rw[b]at m;rw[d,XQ,WQ,(y (l+j) oM).1];rfl)
  (λj m=>by
   rw[b]at m;rw[d,XQ,WQ];exact(y (l+j) oM).2)
 rw[d,XQ,UC]at h;exact h
theorem Only.with_new{b o n g m p:Nat}{w c d:Uq}(h:Only b o n w c)(k:Only g p m c d)(t:w.heap.size<=g)(r:b<w.heap.size):Only b o n w d:=by
 have s:=h.size;have e:=k.block b oM oM;exact⟨k.os.trans h.os,k.tape.trans h.tape,k.output.trans h.output,UB h.size k.size,
  λj l i=>(k.block j oM oM).trans (h.block j l i),
  λq f=>(UV (w:=c) (a:=⟨b,q,none⟩) e).trans (h.cell q f),λq=>(VT (w:=c) (a:=⟨b,q,none⟩) e).trans (h.froz q)⟩
theorem Du(d:St)(m:Nat)(h:¬m=0):perm (gW d (m-1))=gW d m:=by
 obtain⟨k,rfl⟩:∃k,m=k+1:=⟨m-1,oM⟩
 rw[Nat.add_sub_cancel,gW]
theorem BF(d:St)(m:Nat)(cur:Bs)(b:136*m+136<=cur.size)(h:∀j,j<136*m->cur[j]! = jE d j):∀j,j<136*(m+1)->(splice cur (136*m) (front (gW d m) 136).toList)[j]! = jE d j:=by
 intro j e;have k:(front (gW d m) 136).toList.length=136:=by rw[UJ,dU]
 rw[kO _ _ _ _ (by rw[k];exact b) oM,k];by_cases c:j<136*m
 ·rw[yCk oM,h j c]
 ·rw[yCj oM,getElem!_pos _ (j-136*m) (by rw[k];omega),XD,<-getElem!_pos (front (gW d m) 136) (j-136*m) (by rw[dU];omega),Ju _ _ _ oM];unfold jE;rw[show j/136=m by omega,show j%136=j-136*m by omega]
theorem Jq(b:Nat)(d:St)(n:Nat)(w:Uq)(f:d.size=25)(hD:Holds enc w b 0 d)(hn:n<=16384):
 UG prog 228 #[jZ b,iZ n] w λe w'=>e=.returned (sZ w.heap.size n n)/\Only b 0 25 w w'/\Holds encB w' w.heap.size 0 (lS d n):=by
 have K:=Holds.lt hD oM;obtain⟨i,hi,F,N,W⟩:=info_parts info5;obtain⟨o,Q⟩:∃c,n+136=c:=⟨_,rfl⟩
 have h2:∀w:Uq,(XB 23 (iZ 0) (iZ ((n:Int)+136))).run prog w=.ok (sZ w.heap.size 0 o) (w.alloc (.cells (madeCells #[.int .u8 0] o) 5)):=by
  intro w;have h:=run_make (P:=prog) w 23 5 i (.int .u8 0) slice22 hi F .i64 .i64 0 ((n:Int)+136) oM oM (by rw[W];omega) oM;rw[N,XQ,show((n:Int)+136).toNat=o by omega]at h;exact h
 have S:Holds encB (w.alloc (.cells (madeCells #[.int .u8 0] o) 5)) w.heap.size 0 (UI o 0):=Holds.made (enc:=encB) w 5 o 0;have T:Only b 0 25 w (w.alloc (.cells (madeCells #[.int .u8 0] o) 5)):=(Only.refl _ _ _ _).alloc K _;have V:=Holds.below hD ((UQ w.heap.size w).alloc (Uv _) (.cells (madeCells #[.int .u8 0] o) 5)) K;have U:w.heap.size<(w.alloc (.cells (madeCells #[.int .u8 0] o) 5)).heap.size:=by simp
 have X:=mk1 (Q);go_enter func228,ntmps228;go_wp2;go_loopg [5] o (λg s5 wr=>∃(m l:Nat) (cur:Bs),Hid (l=136*m)/\l+g=o/\1<=g/\s5=sZ w.heap.size l o/\Holds encB wr w.heap.size 0 cur/\cur.size=o/\Holds enc wr b 0 (gW d (m-1))/\Only b 0 25 w wr/\w.heap.size<wr.heap.size/\Hid (∀j,j<136*m->cur[j]! = jE d j))
 case atStart=>exact⟨0,0,_,rfl,oM,by have:=X.out;omega,rfl,S,by rw[UO],V,T,U,λj O=>oM⟩
 case round =>
  obtain⟨m,l,cur,B,hg,h1,rfl,L,z,D,Y,hs,HE⟩:=hrel;have M:=dQ d f (m-1);by_cases h3:l<n
  ·have Z:(l:Int)<(n:Int):=oM;have HN:Hid (∀j,j<136*(m+1)->(splice cur l (front (gW d m) 136).toList)[j]! = jE d j):=by
    rw[B.out];exact BF d m cur (by rw[<-B.out];omega) HE
   by_cases J:m=0
   ·have F:¬(0:Int)<(l:Int):=by have:=B.out;omega
    have s:Holds enc wr b 0 (gW d m):=by rw[J]at D⊢;exact D
    go_wp2_with fail
    refine(sO b 0 136 _ _ (dQ d f m) s dC).mono ?_;rintro e E ⟨rfl,p,R⟩;have q:=Holds.below L p (Holds.lt L oM);have C:=Holds.below s p (Holds.lt s (by rw[dQ d f];decide));have x:=uH (l:=l) (k:=136) (n:=136) (c:=136) q z R (dU _ _) rfl oM 23;have t:=iO q l (front (gW d m) 136).toList (by rw[UJ,dU];omega);rw[UC]at t;have A:=Y.trans (Only.of_below p rfl (Holds.lt s (by rw[dQ d f];decide)));have r:Only w.heap.size 0 o E (E.setCells w.heap.size l ((front (gW d m) 136).toList.map encB)):=(Only.refl _ _ _ _).setCells _ _ oM (by rw[UP,UJ,dU];omega);have v:=A.with_new r (Uv _) K;have y:=Holds.other C r oM (by rw[dQ d f];decide);have u:=Uw (Holds.lt q oM) r.size;generalize E.setCells w.heap.size l ((front (gW d m) 136).toList.map encB)=G at x t v y u;have a:Hid _:=x;go_wp2_with (at_builtin;refine WH _ rfl _ _ 23 23 rfl _ _ rfl rfl _ _ a.out ?_)
    go_roundg (gk-136)
    case measure=>omega
    case rel =>
     exact⟨m+1,l+136,_,by have:=B.out;show _=_;omega,oM,oM,rfl,t,by rw[dM,z],y,v,u,HN⟩
   ·have h0:(0:Int)<(l:Int):=by have:=B.out;omega
    go_wp2_with fail
    refine(tW b 0 _ _ M D).mono ?_;rintro e w1 ⟨rfl,I,s⟩;rw[Du d m J]at s;have G:=Holds.other L I oM oM;have H:=Y.trans I;go_wp2_with fail
    refine(sO b 0 136 _ _ (dQ d f m) s dC).mono ?_;rintro e E ⟨rfl,p,R⟩;have q:=Holds.below G p (Holds.lt G oM);have C:=Holds.below s p (Holds.lt s (by rw[dQ d f];decide));have x:=uH (l:=l) (k:=136) (n:=136) (c:=136) q z R (dU _ _) rfl oM 23;have t:=iO q l (front (gW d m) 136).toList (by rw[UJ,dU];omega);rw[UC]at t;have A:=H.trans (Only.of_below p rfl (Holds.lt s (by rw[dQ d f];decide)));have r:Only w.heap.size 0 o E (E.setCells w.heap.size l ((front (gW d m) 136).toList.map encB)):=(Only.refl _ _ _ _).setCells _ _ oM (by rw[UP,UJ,dU];omega);have v:=A.with_new r (Uv _) K;have y:=Holds.other C r oM (by rw[dQ d f];decide);have u:=Uw (Holds.lt q oM) r.size;have a:Hid _:=x;go_wp2_with (at_builtin;refine WH _ rfl _ _ 23 23 rfl _ _ rfl rfl _ _ a.out ?_)
    go_roundg (gk-136)
    case measure=>omega
    case rel =>
     exact⟨m+1,l+136,_,by have:=B.out;show _=_;omega,oM,oM,rfl,t,by rw[dM,z],y,v,u,HN⟩
  ·have p:(n:Int)<=(l:Int):=oM;go_wp2;go_ret;refine⟨rfl,Y,λj O=>?_⟩;rw[lQ]at O;have:=L j oM;rw[HE.out j (by have:=B.out;omega)]at this;rw[Df d n j O];exact this
def eN:Array Us:=UI 25 (uZ 0)++UI 136 (.int .u8 0)++#[iZ 0]
theorem Hj:∀w:Uq,(zeroValue 266).run prog w=.ok (.agg eN) w:=λ_=>kR
theorem Ii(j:Nat)(b:j<25):eN[j]? = some (uZ 0):=by
 have k:j<(UI 25 (uZ 0)).size:=by rw[UO];exact b
 unfold eN;rw[yAG,XW k,UZ k,Wv]
theorem Ig(j:Nat)(b:j<136):eN[25+j]? = some (.int .u8 0):=by
 have k:j<(UI 136 (VY .u8 0)).size:=by rw[UO];exact b
 unfold eN;rw[yAG,YC (by rw[UO];omega),UO,WJ,XW k,UZ k,Wv]
theorem Ih:eN[161]? = some (iZ 0):=by
 unfold eN;rw[YC (by rw[VM,UO,UO];decide),VM,UO,UO];rfl
theorem E9(w:Uq)(t:U7):HSp (w.alloc (.cells eN t)) w.heap.size S0:=by
 refine⟨λj b=>?_,λj b=>?_,?_,?_⟩
 ·have k:j<25:=by simpa[S0,vW]using b
  rw[Vb,Wu,UC,Ii j k];refine⟨?_,rfl⟩;have e:S0.d[j]! = 0:=Gh j k;rw[e];rfl
 ·have k:j<136:=by simpa[S0]using b
  rw[Vb,Wu,Ig j k];refine⟨?_,rfl⟩;have e:S0.p[j]! = 0:=rep_at 136 j k;rw[e];rfl
 ·rw[Vb,Ih];rfl
 ·rw[Wu]
theorem yV(a:Option Wt)(c o len cap n:Nat)(d:Bs)(w:Uq)(x:n<=16384)(z:d.size=len)(m:len<=cap)(f:len<=1099511627776)(j:len=0\/(a=some ⟨c,o,none⟩/\Holds encB w c o d)):
 UG prog 196 #[.slice a len cap,iZ n] w λe w'=>∃r,e=.returned (.tuple #[sZ r n n,iZ 0])/\w.heap.size<=r/\kZ w w'/\Holds encB w' r 0 (qM d.toList n):=by
 have l:=E9 w 266;have b:kZ w (w.alloc (.cells eN 266)):=(UQ _ _).alloc (Uv _) _;have s:w.heap.size<(w.alloc (.cells eN 266)).heap.size:=by simp
 have k:len=0\/(a=some ⟨c,o,none⟩/\c≠w.heap.size/\Holds encB (w.alloc (.cells eN 266)) c o d):=by
  by_cases p:len=0
  ·exact U3 p
  ·rcases j with h|⟨q,i⟩
   ·exact U3 h
   ·have g:=Holds.lt i oM;exact UW ⟨q,oM,Holds.below i b g⟩
 have C:=Hj;go_enter func196,ntmps196;go_wp2_with fail
 generalize w.alloc (.cells eN 266)=B at l b s k⊢;refine(take_any w.heap.size S0 a c o len cap d B CS l z m f k).mono ?_;rintro e v ⟨rfl,i,q⟩;go_wp2_with fail
 refine(Fw w.heap.size (fU S0 d.toList) 31 v (jD CS _) q).mono ?_;rintro e A ⟨rfl,g,u⟩;have t:=u.d;go_wp2_with fail
 refine(Jq w.heap.size _ n _ (uI _ _) t x).mono ?_;rintro e D ⟨rfl,p,y⟩;go_wp2
 go_ret2
 have s1:=i.size;have s2:=g.size;exact⟨A.heap.size,rfl,oM,(b.trans ((i.trans g).below oM (Uv _))).trans (p.below oM (Uv _)),y⟩
end SP
namespace SP
def Own(B:Nat)(w:Uq)(v:Us)(T:List UInt8):Prop:=
 ∃g cap cur,v=sZ g T.length cap/\B<=g/\g<w.heap.size/\V2 cur=cap/\T.length<=cap/\Holds encB w g 0 cur/\∀j,j<T.length->cur[j]! = T[j]!
theorem Holds.front{α:Type}[Inhabited α]{f:α->Us}{w:Uq}{b o:Nat}{d e:Array α}(h:Holds f w b o d)(g:e.size<=d.size)(c:∀j,j<e.size->e[j]! = d[j]!):Holds f w b o e:=by
 intro j k;rw[c j k];exact h j oM
theorem Ck(T:List UInt8)(j:Nat):T.toArray[j]! = T[j]!:=by
 by_cases h:j<T.length
 ·rw[getElem!_pos T.toArray j (by simpa using h),getElem!_pos T j h];simp
 ·rw[getElem!_neg T.toArray j (by simpa using h),getElem!_neg T j h]
variable {B:Nat}{w w1:Uq}{v:Us}{T:List UInt8}
theorem Own.holds{g cap n:Nat}(h:Own B w (sZ g n cap) T):B<=g/\n=T.length/\T.length<=cap/\Holds encB w g 0 T.toArray:=by
 obtain⟨l,k,cur,hv,f,_,i,b,e,c⟩:=h;injection hv with e1 e2 e3
 injection e1 with e1
 injection e1 with e1 _ _
 subst e1 e3;exact⟨f,e2,b,Holds.front e (by simp;omega) (λj d=>by rw[Ck];exact(c j (by simpa using d)).symm)⟩
theorem yA(s:ByteArray)(g:B<=w.heap.size):
 ∃b w',(convert 9 23 (.string s)).run prog w=.ok b w'/\Own B w' b s.data.toList/\kZ w w'/\b=sZ w.heap.size s.size (grownCap w s.size 0 5):=by
 have h:=Lib.run_convert_string_bytes (P:=prog) w 9 23 5 s str9 slice22 int5;have f:s.size<=grownCap w s.size 0 5:=by
  unfold grownCap Question.cut;exact Y8 _ _
 have l:s.data.size=s.size:=rfl;refine⟨_,_,h,⟨w.heap.size,grownCap w s.size 0 5,s.data++UI (grownCap w s.size 0 5-s.size) 0,?_,g,by rw[yAJ];omega,?_,?_,?_,?_⟩,?_,rfl⟩
 ·rw[UJ];rfl
 ·rw[VM,UO];omega
 ·rw[UJ];omega
 ·intro j b;rw[VM,UO]at b;have e:=Lib.bytesWorld_at_new w 5 s;have d:(Zj w 5 s).size=grownCap w s.size 0 5:=by
   unfold Zj;rw[VM,Array.size_map,UO];omega
  have i:(Zj w 5 s)=(s.data++UI (grownCap w s.size 0 5-s.size) 0).map encB:=by
   unfold Zj;rw[Array.map_append,yAv];rfl
  have c:j<(s.data++UI (grownCap w s.size 0 5-s.size) 0).size:=by rw[VM,UO];exact b
  constructor
  ·unfold VX;rw[e];simp only[UC];rw[yCk dC,i,yAE,UZ c,Yv,getElem!_pos _ j c]
  ·unfold World.frozen?;rw[e];simp only[UC,d];simp;omega
 ·intro j b;rw[UJ]at b;rw[app_front _ _ j b,getElem!_pos s.data.toList j (by rw[UJ];exact b),XD]
 ·refine⟨?_,?_,?_,?_,λk b=>Lib.bytesWorld_at_old w 5 s k b⟩
  ·unfold Z5 yAg;rw[yCk dC];rfl
  ·unfold Z5 yAg;rw[yCk dC];rfl
  ·unfold Z5 yAg;rw[yCk dC];rfl
  ·rw[yAJ];omega
theorem Holds.below'{α:Type}[Inhabited α]{f:α->Us}{w e:Uq}{b o:Nat}{d:Array α}(h:Holds f w b o d)(k:kZ w e):Holds f e b o d:=by
 intro j g;have c:=Holds.lt h oM;exact Holds.below h k c j g
theorem DN(l:List UInt8):(Jl l).size=32:=by rw[Jl,dU]
end SP
namespace SP
def bV(n d:Nat):UInt8:=UL (n/d)
theorem jL(n d:Nat):(n:Int)/(d:Int)%256=ub (bV n d):=by
 have k:((n:Int)/(d:Int))=((n/d:Nat):Int):=by rw[Zb]
 rw[k];unfold ub bV;rw[YH];omega
theorem xK(n:Nat):(n:Int)%256=ub (bV n 1):=by
 have:=jL n 1;rw[show((1:Nat):Int)=1 from rfl,Int.ediv_one]at this;exact this
def sP(l:List UInt8):List UInt8:=[bV l.length 16777216,bV l.length 65536,bV l.length 256,bV l.length 1]++l
theorem xO(w:Uq)(x y z t:UInt8):Holds encB (w.alloc (.cells #[.int .u8 (ub x),.int .u8 (ub y),.int .u8 (ub z),.int .u8 (ub t)] 5)) w.heap.size 0 #[x,y,z,t]:=by
 have h:=Holds.new (enc:=encB) w 5 #[x,y,z,t];have e:yB3 encB #[x,y,z,t]=#[.int .u8 (ub x),.int .u8 (ub y),.int .u8 (ub z),.int .u8 (ub t)]:=by simp[encB]
 rw[e]at h;exact h
theorem oU(b:Nat)(S:Sp)(a:Option Wt)(c i len cap:Nat)(f:Bs)(w:Uq)(j:Ok S)(E:HSp w b S)(B:f.size=len)(t:len<=cap)(m:len<=1099511627776)
 (g:len=0\/(a=some ⟨c,i,none⟩/\c≠b/\Holds encB w c i f)) :
 UG prog 188 #[jZ b,.slice a len cap] w λe w'=>e=.returned (.tuple #[])/\Only b 0 162 w w'/\HSp w' b (fU S (sP f.toList)):=by
 have A:=E.lt;have b0:(len:Int)/16777216%256=ub (bV len 16777216):=jL len 16777216;have b1:(len:Int)/65536%256=ub (bV len 65536):=jL len 65536;have H:(len:Int)/256%256=ub (bV len 256):=jL len 256;have I:(len:Int)%256=ub (bV len 1):=xK len;have F:Hid (sP f.toList=(#[bV len 16777216,bV len 65536,bV len 256,bV len 1]:Bs).toList++f.toList):=by
  unfold sP;rw[UJ,B];rfl
 have D:=xO w (bV len 16777216) (bV len 65536) (bV len 256) (bV len 1);generalize bV len 16777216=l at *;generalize bV len 65536=r at *;generalize bV len 256=p at *;generalize bV len 1=s at *;have d:kZ w (w.alloc (.cells #[.int .u8 (ub l),.int .u8 (ub r),.int .u8 (ub p),.int .u8 (ub s)] 5)):=(UQ _ _).alloc (Uv _) _;have o:=E.below d A;have q:Only b 0 162 w (w.alloc (.cells #[.int .u8 (ub l),.int .u8 (ub r),.int .u8 (ub p),.int .u8 (ub s)] 5)):=Only.of_below d rfl A;have k:len=0\/(a=some ⟨c,i,none⟩/\c≠b/\Holds encB (w.alloc (.cells #[.int .u8 (ub l),.int .u8 (ub r),.int .u8 (ub p),.int .u8 (ub s)] 5)) c i f):=by
  by_cases x:len=0
  ·exact U3 x
  ·rcases g with h|⟨z,u,v⟩
   ·exact U3 h
   ·exact UW ⟨z,u,Holds.below v d (Holds.lt v oM)⟩
 go_enter func188,ntmps188;go_wp2_with fail
 generalize w.alloc (.cells #[.int .u8 (ub l),.int .u8 (ub r),.int .u8 (ub p),.int .u8 (ub s)] 5)=G at D d o q k⊢;refine(take_any b S (some (aZ w.heap.size)) w.heap.size 0 4 4 #[l,r,p,s] G j o rfl (Uv _) dC (UW ⟨rfl,oM,D⟩)).mono ?_;rintro e C ⟨rfl,n,y⟩;have g:len=0\/(a=some ⟨c,i,none⟩/\c≠b/\Holds encB C c i f):=by
  by_cases x:len=0
  ·exact U3 x
  ·rcases k with h|⟨z,u,v⟩
   ·exact U3 h
   ·exact UW ⟨z,u,Holds.other v n u oM⟩
 go_wp2_with fail
 refine(take_any b _ a c i len cap f C (jD j _) y B t m g).mono ?_;rintro e x ⟨rfl,v,u⟩;go_wp2
 go_end0
 refine⟨rfl,(q.trans n).trans v,?_⟩;rw[F.out,lP];exact u
def kG(k:List UInt8)(b:List (List UInt8)):List UInt8:=sP k++b.flatMap sP
def oR(k:List UInt8)(b:List (List UInt8)):Bs:=Jl (kG k b)
theorem fC(k:List UInt8)(b:List (List UInt8)):(oR k b).size=32:=DN _
theorem A5(k:List UInt8)(b:List (List UInt8))(x:List UInt8):kG k (b++[x])=kG k b++sP x:=by
 unfold kG;rw[List.flatMap_append,<-List.append_assoc];simp
def PartOk(w:Uq)(v:Us)(x:List UInt8):Prop:=
 ∃a b c cap k,v=.slice a (V2 k) cap/\k.toList=x/\k.size<=cap/\k.size<=1099511627776/\(k.size=0\/(a=some ⟨b,c,none⟩/\Holds encB w b c k))
theorem PartOk.below{w c:Uq}{v:Us}{x:List UInt8}(h:PartOk w v x)(k:kZ w c):PartOk c v x:=by
 obtain⟨a,d,l,cap,j,m,f,i,g,b⟩:=h;refine⟨a,d,l,cap,j,m,f,i,g,?_⟩;rcases b with b|⟨b,e⟩
 ·exact U3 b
 ·exact UW ⟨b,Holds.below' e k⟩
def PartsOk(w:Uq)(d:Option Wt)(k:List (List UInt8)):Prop:=
 k.length=0\/∃c b,d=some ⟨c,b,none⟩/\∀j,j<k.length->∃v,w.cell? ⟨c,b+j,none⟩=some v/\PartOk w v k[j]!
theorem PartsOk.below{w g:Uq}{b:Option Wt}{f:List (List UInt8)}(h:PartsOk w b f)(k:kZ w g):PartsOk g b f:=by
 rcases h with h|⟨d,c,n,i⟩
 ·exact U3 h
 ·refine UW ⟨d,c,n,λj l=>?_⟩;obtain⟨v,e,m⟩:=i j l;exact⟨v,by rw[k.cell (p:=⟨d,c+j,none⟩) (Xn _ _ e)];exact e,m.below k⟩
theorem wG{α:Type}[Inhabited α](l:List α)(k:Nat)(h:k<l.length):l.take (k+1)=l.take k++[l[k]!]:=by
 rw[List.take_succ_eq_append_getElem h,getElem!_pos l k h]
theorem vP(b:ByteArray)(Z:Option Wt)(D:Nat)(c:List (List UInt8))(w:Uq)(h7:b.size<=1048576)(hc:c.length<=1048576)(hP:PartsOk w Z c):
 UG prog 113 #[.string b,.slice Z c.length D] w λe w'=>∃r,e=.returned (sZ r 32 32)/\w.heap.size<=r/\kZ w w'/\Holds encB w' r 0 (oR b.data.toList c):=by
 have x:=E9 w 266;have H:kZ w (w.alloc (.cells eN 266)):=(UQ _ _).alloc (Uv _) _;have I:(w.alloc (.cells eN 266)).heap.size=w.heap.size+1:=by simp
 have zv:=Hj;generalize R:w.alloc (.cells eN 266)=Y at x H I;obtain⟨v2,W2,q,d,m,S⟩:=yA (w:=Y) (B:=0) b (Wx _);rw[S]at q d;obtain⟨P,E,G,N⟩:=d.holds;rw[<-E]at G;clear P E;have i:Holds encB W2 Y.heap.size 0 b.data:=by simpa using N
 have h5:=x.below m x.lt;have h8:=m.size;obtain⟨n,hn⟩:∃n,c.length=n:=⟨_,rfl⟩
 rw[hn];have M:=mk1 (hn);rw[I]at q i;generalize hg:grownCap Y b.size 0 5=c2 at *;have h6:(convert 9 23 (.string b)).run prog (w.alloc (.cells eN 266))=.ok (.slice (some ⟨w.heap.size+1,0,none⟩) b.size c2) W2:=by rw[R];exact q
 go_enter func113,ntmps113;go_wp2_with fail
 refine(oU w.heap.size S0 (some ⟨w.heap.size+1,0,none⟩) (w.heap.size+1) 0 b.size c2 b.data W2 CS h5 rfl oM oM (UW ⟨rfl,oM,i⟩)).mono ?_;rintro e w3 ⟨rfl,Q,z⟩;have O:=(H.trans (m.mono oM)).trans (Q.below oM (Uv _));have ha:=z.lt;go_wp2;go_loopg [13] n (λg s13 wr=>∃(k:Nat) (o:Sp),k+g=n/\s13=iZ k/\HSp wr w.heap.size o/\kZ w wr/\Ok o/\Hid (o=fU S0 (kG b.data.toList (c.take k))))
 case atStart =>
  refine⟨0,_,oM,rfl,z,O,jD CS _,?_⟩;rw[List.take_zero];unfold kG;rw[List.flatMap_nil,List.append_nil];rfl
 case round =>
  obtain⟨k,o,hk,rfl,A,s,l,HE⟩:=hrel;by_cases he:k<n
  ·obtain⟨K,C,rfl,F⟩:∃K C,Z=some ⟨K,C,none⟩/\∀j,j<c.length->∃v,w.cell? ⟨K,C+j,none⟩=some v/\PartOk w v c[j]!:=by
    rcases hP with h|h
    ·have:=M.out;omega
    ·exact h
   obtain⟨v,u,T⟩:=F k (by have:=M.out;omega);have W:=Xn _ _ u;have h9:wr.cell? ⟨K,C+k,none⟩=some v:=by rw[s.cell (p:=⟨K,C+k,none⟩) W];exact u
   obtain⟨a,L,so,cap,y,rfl,J,h3,h4,f⟩:=T;have t:y.size=0\/(a=some ⟨L,so,none⟩/\L≠w.heap.size/\Holds encB wr L so y):=by
    by_cases X:y.size=0
    ·exact U3 X
    ·rcases f with h|⟨V,U⟩
     ·exact U3 h
     ·have:=Holds.lt U oM;exact UW ⟨V,oM,Holds.below U s this⟩
   have HB:Hid (y.toList=c[k]!):=J;have l1:(k:Int)<(n:Int):=oM;generalize U:y.size=bz at *;clear u f F J;go_wp2_with fail
   refine(oU w.heap.size o a L so bz cap y wr l A U h3 h4 t).mono ?_;rintro e w4 ⟨rfl,X,V⟩;go_wp2;go_roundg (gk-1)
   case measure=>omega
   case rel =>
    refine⟨k+1,_,oM,by go_num,V,s.trans (X.below s.size (Uv _)),jD l _,?_⟩;rw[wG c k (by have:=M.out;omega),A5,lP,<-HE.out,HB.out];rfl
  ·have K:k=n:=oM;have u:Hid (o=fU S0 (kG b.data.toList c)):=by
    have f:c.take k=c:=Y9 (by have:=M.out;omega);rw[f]at HE;exact HE
   go_wp2_with fail
   refine(Fw w.heap.size o 6 wr l A).mono ?_;rintro e J ⟨rfl,f,y⟩;have t:Holds enc J w.heap.size 0 (yU (kG b.data.toList c) 6):=by
    have:=y.d;rw[u.out]at this;exact this
   go_wp2_with fail
   refine(sO w.heap.size 0 32 _ _ (uI _ _) t dC).mono ?_;rintro e U ⟨rfl,C,F⟩;have T:=f.size;have L:=s.size;go_wp2;go_ret;exact⟨J.heap.size,rfl,oM,(s.trans (f.below s.size (Uv _))).trans (C.mono oM),F⟩
end SP
namespace SP
variable {B:Nat}{w w1:Uq}{v:Us}{T:List UInt8}
set_option maxRecDepth 4000
end SP
namespace SP
theorem JL{w:Uq}{b r:Nat}{L T:Bs}(e:Holds encB w b 0 L)(o:L.size=32)(l:Holds encB w r 0 T)(m:T.size=32):
 (XY #[23,23] 3 #[sZ b 32 32,sZ r 32 32]).run prog w=.ok (goInt 32) (w.setCells b 0 (T.toList.map encB)):=by
 have k:(T.toList.map encB).length=32:=by rw[UP,UJ,m]
 have:=run_copy_cells (P:=prog) w 23 23 3 5 b 0 32 32 (aZ r) 32 32 (T.toList.map encB) slice22 ints5 (by rw[k];rfl)
  (λj u c=>by
   obtain⟨n,f⟩:=UE.1 c;rw[k]at n;have g:=(l j oM).1;rw[getElem!_pos T j oM]at g;rw[Xc,XD]at f;have i:(⟨r,0,none⟩:Wt).add j=⟨r,0+j,none⟩:=by
    unfold Zi;by_cases d:j=0
    ·subst d;rw[yCj rfl]
    ·rw[yCk d]
   rw[i,g,f])
  (λj c=>by rw[(e j oM).1];rfl) (λj c=>(e j oM).2)
  (λu d=>by obtain⟨x,_,rfl⟩:=Vm.1 d;rfl)
 rw[k]at this;exact this
theorem AZ{w:Uq}{b:Nat}{L T:Bs}(c:Holds encB w b 0 L)(f:L.size=32)(e:T.size=32):Holds encB (w.setCells b 0 (T.toList.map encB)) b 0 T:=by
 have k:(T.toList.map encB).length=32:=by rw[UP,UJ,e]
 refine Holds.setCells c (T.toList.map encB) 0 oM oM (λj d=>?_) (λj i g=>oM);rw[k]at d;rw[Xc,XD,UC,getElem!_pos T j oM]
theorem Ee{w c:Uq}{b:Nat}{L T:Bs}(g:Holds encB w b 0 L)(i:L.size=32)(e:T.size=32)(d:b<w.heap.size)(k:Below w.drew.heap.size w.drew c):
 Only b 0 32 w (c.setCells b 0 (T.toList.map encB))/\Holds encB (c.setCells b 0 (T.toList.map encB)) b 0 T:=by
 have f:(T.toList.map encB).length=32:=by rw[UP,UJ,e]
 refine⟨?_,AZ (Holds.below (Holds.drew g) k d) i e⟩;exact Only.setCells (((Only.refl b 0 32 w).drew).trans (Only.of_below k rfl d)) _ 0 (Uv _) oM
theorem qK(b:Nat)(L:Bs)(k:ByteArray)(o:Option Wt)(c n:Nat)(j:List (List UInt8))(w:Uq)(f:k.size<=1048576)(p:j.length=n)(x:n<=1048576)(t:PartsOk w o j)(m:Holds encB w b 0 L)(r:L.size=32):
 UG prog 208 #[.pointer (some ⟨b,0,none⟩),.string k,.slice o n c] w λe w'=>e=.returned (.tuple #[])/\Only b 0 32 w w'/\Holds encB w' b 0 (oR k.data.toList j):=by
 subst p;have q:=Holds.lt m oM;have s:=vP k o c j w.drew f x (t.below ((UQ _ _).drew));generalize z:oR k.data.toList j=T at s⊢;have d:T.size=32:=by rw[<-z,fC]
 have u:=mk1 (s);go_enter func208,ntmps208;go_wp2;go_region_with (go_at_call 113;refine Calls.mono u.out ?_;rintro e a ⟨A,rfl,v,g,l⟩;have y:=JL (Holds.below (Holds.drew m) g q) r l d;have i:=Ee m r d q g)
 all_goals (try go_wp2)
 all_goals go_end0
 all_goals exact⟨rfl,i⟩
def encV(v:Us):Us:=v
theorem zI(l:List UInt8)(n:Nat):(qM l n).size=n:=by rw[qM,lQ]
def newL(k:List UInt8):Bs:=oR [108,111,103] [k]
def uN(L:Bs)(k b:List UInt8):Bs:=oR [115,97,121] [L.toList,k,b]
def CN(L:Bs)(k:List UInt8)(n:Nat):Bs:=qM (oR [97,115,107] [L.toList,k]).toList n
def tI(L:Bs)(k:List UInt8):Bs:=oR [97,115,107,101,100] [L.toList,k]
theorem zY(l:List UInt8):(newL l).size=32:=fC _ _
theorem kP(L:Bs)(l t:List UInt8):(uN L l t).size=32:=fC _ _
theorem bE(L:Bs)(l:List UInt8):(tI L l).size=32:=fC _ _
theorem Ha(L:Bs)(l:List UInt8)(n:Nat):(CN L l n).size=n:=zI _ _
theorem oG(s:ByteArray)(w:Uq)(p:s.size<=1099511627776):
 ∃c w',(convert 9 23 (.string s)).run prog w=.ok (sZ w.heap.size s.size c) w'/\s.size<=c/\Holds encB w' w.heap.size 0 s.data/\PartOk w' (sZ w.heap.size s.size c) s.data.toList/\kZ w w'/\w.heap.size<w'.heap.size:=by
 obtain⟨v2,n,e,k,l,j⟩:=yA (w:=w) (B:=0) s (Wx _);rw[j]at e k;have o:w.heap.size<n.heap.size:=by
  obtain⟨g,cap,cur,b,_,d,_⟩:=k;injection b with b
  injection b with b
  injection b with b
  omega
 obtain⟨q,m,d,i⟩:=k.holds;rw[<-m]at d;have b:Holds encB n w.heap.size 0 s.data:=by simpa using i
 have f:=d;exact⟨_,n,e,f,b,⟨_,w.heap.size,0,_,s.data,rfl,rfl,f,p,UW ⟨rfl,b⟩⟩,l,o⟩
theorem nY(W:Uq)(vs:Array Us)(k:List (List UInt8))(t:U7)(d:vs.size=k.length)(h:∀j,j<k.length->PartOk W vs[j]! k[j]!):
 PartsOk (W.alloc (.cells vs t)) (some (aZ W.heap.size)) k:=by
 refine UW ⟨W.heap.size,0,rfl,λj b=>⟨vs[j]!,?_,(h j b).below ((UQ _ _).alloc (Uv _) _)⟩⟩;have c:vs.map encV=vs:=by
  have:encV=id:=rfl;rw[this,Array.map_id]
 have:=(Holds.new (enc:=encV) W t vs j oM).1;rw[c]at this;exact this
theorem qX{w:Uq}{b:Nat}{L:Bs}(k:Holds encB w b 0 L)(c:L.size=32):PartOk w (sZ b 32 32) L.toList:=
 ⟨_,b,0,32,L,by rw[c],rfl,oM,oM,UW ⟨rfl,k⟩⟩
theorem KJ:∀w:Uq,(zeroValue 286).run prog w=.ok (.agg (UI 32 (.int .u8 0))) w:=λ_=>kR
theorem Em(k:ByteArray)(w:Uq)(v:k.size<=1048576):
 UG prog 231 #[.string k] w λe w'=>e=.returned (jZ w.heap.size)/\kZ w w'/\Holds encB w' w.heap.size 0 (newL k.data.toList):=by
 have z:=KJ;have t:Holds encB (w.alloc (.cells (UI 32 (.int .u8 0)) 286)) w.heap.size 0 (UI 32 0):=by
  have:=Holds.new (enc:=encB) w 286 (UI 32 0);rw[yAv]at this;exact this
 have p:kZ w (w.alloc (.cells (UI 32 (.int .u8 0)) 286)):=(UQ _ _).alloc (Uv _) _;have r:(w.alloc (.cells (UI 32 (.int .u8 0)) 286)).heap.size=w.heap.size+1:=by simp
 obtain⟨c,i,u,A,y,o,m,n⟩:=oG k (w.alloc (.cells (UI 32 (.int .u8 0)) 286)) oM;have l:=Holds.below' t m;have g:=nY i #[.slice (some ⟨(w.alloc (.cells (UI 32 (.int .u8 0)) 286)).heap.size,0,none⟩) k.size c] [k.data.toList] 23 rfl (λj x=>by
  have b:j=0:=by simpa using x
  subst b;exact o)
 have d:kZ i (i.alloc (.cells #[.slice (some ⟨(w.alloc (.cells (UI 32 (.int .u8 0)) 286)).heap.size,0,none⟩) k.size c] 23)):=(UQ _ _).alloc (Uv _) _;have b:=Holds.below' l d;rw[r]at u g d b n;have f:=(p.trans (m.mono oM)).trans (d.mono oM);go_enter func231,ntmps231;go_wp2_with fail
 refine(qK w.heap.size (UI 32 0) ⟨#[108,111,103]⟩ (some (aZ i.heap.size)) 1 1 [k.data.toList] _ dC rfl dC g b (by simp)).mono ?_;rintro e a ⟨rfl,s,q⟩;go_wp2;go_ret;exact⟨rfl,f.trans (s.below f.size (Uv _)),q⟩
theorem Bq(b:Nat)(L:Bs)(k:ByteArray)(i:Option Wt)(l n:Nat)(d:List UInt8)(w:Uq)(z:k.size<=1048576)(y:Holds encB w b 0 L)(a:L.size=32)(E:PartOk w (.slice i l n) d):
 UG prog 145 #[jZ b,.string k,.slice i l n] w λe w'=>e=.returned (.tuple #[])/\Only b 0 32 w w'/\Holds encB w' b 0 (uN L k.data.toList d):=by
 have x:=Holds.lt y oM;obtain⟨c,g,D,G,B,o,f,A⟩:=oG k w oM;have m:=Holds.below y f x;have u:=E.below f;have s:=nY g #[sZ b 32 32,sZ w.heap.size k.size c,.slice i l n] [L.toList,k.data.toList,d] 23 rfl (λj C=>by
  have p:j<3:=C;match j,p with
  | 0,_=>exact qX m a
  | 1,_=>exact o
  | 2,_=>exact u)
 have q:kZ g (g.alloc (.cells #[sZ b 32 32,sZ w.heap.size k.size c,.slice i l n] 23)):=(UQ _ _).alloc (Uv _) _;have v:=Holds.below' m q;have p:Only b 0 32 w (g.alloc (.cells #[sZ b 32 32,sZ w.heap.size k.size c,.slice i l n] 23)):=(Only.of_below f rfl x).alloc oM _;go_enter func145,ntmps145;go_wp2_with fail
 refine(qK b L ⟨#[115,97,121]⟩ (some (aZ g.heap.size)) 3 3 [L.toList,k.data.toList,d] _ dC rfl dC s v a).mono ?_;rintro e F ⟨rfl,t,r⟩;go_wp2
 go_end0
 exact⟨rfl,p.trans t,r⟩
theorem Nn(b:Nat)(L:Bs)(k:ByteArray)(n:Nat)(w:Uq)(Y:k.size<=1048576)(hn:n<=1024)(X:Holds encB w b 0 L)(O:L.size=32):
 UG prog 242 #[jZ b,.string k,iZ n] w λe w'=>∃r,e=.returned (.tuple #[sZ r n n,iZ 0])/\w.heap.size<=r/\Only b 0 32 w w'/\Holds encB w' b 0 (tI L k.data.toList)/\Holds encB w' r 0 (CN L k.data.toList n):=by
 have F:=Holds.lt X oM;obtain⟨c,i,he,hc,U,q,C,h4⟩:=oG k w oM;have d:=Holds.below X C F;have y:=nY i #[sZ b 32 32,sZ w.heap.size k.size c] [L.toList,k.data.toList] 23 rfl (λj t=>by
  have f:j<2:=t;match j,f with
  | 0,_=>exact qX d O
  | 1,_=>exact q)
 have v:kZ i (i.alloc (.cells #[sZ b 32 32,sZ w.heap.size k.size c] 23)):=(UQ _ _).alloc (Uv _) _;have a:=Holds.below' d v;have s:Only b 0 32 w (i.alloc (.cells #[sZ b 32 32,sZ w.heap.size k.size c] 23)):=(Only.of_below C rfl F).alloc oM _;have d0:decide ((n:Int)<0)=false:=decide_eq_false oM;have d1:¬(1024:Int)<(n:Int):=oM;clear U q v;go_enter func242,ntmps242;go_wp2_with fail
 refine(vP ⟨#[97,115,107]⟩ (some (aZ i.heap.size)) 2 [L.toList,k.data.toList] _ dC (by show 2<=1048576;omega) y).mono ?_;rintro e w3 ⟨r3,rfl,h9,x,M⟩;have S:=Holds.below' a x;have m:=s.trans (Only.of_below x rfl (Uw F s.size));clear y a d;go_wp2_with fail
 refine(yV (some (aZ r3)) r3 0 32 32 n _ _ oM (fC _ _) oM oM (UW ⟨rfl,M⟩)).mono ?_;rintro e u ⟨E,rfl,h5,B,P⟩;have R:=Holds.below' S B;have h6:=m.size;have z:=m.trans (Only.of_below B rfl oM);have G:Holds encB u E 0 (CN L k.data.toList n):=P;have h8:=z.size;obtain⟨K,l,h0,h7,ha,H,g,Z⟩:=oG k u oM;have A:=Holds.below' R g;have V:=Holds.below' G g;have p:=nY l #[sZ b 32 32,sZ u.heap.size k.size K] [L.toList,k.data.toList] 23 rfl (λj t=>by
  have f:j<2:=t;match j,f with
  | 0,_=>exact qX A O
  | 1,_=>exact H)
 have f:kZ l (l.alloc (.cells #[sZ b 32 32,sZ u.heap.size k.size K] 23)):=(UQ _ _).alloc (Uv _) _;have J:=Holds.below' A f;have Q:=Holds.below' V f;have T:Only b 0 32 w (l.alloc (.cells #[sZ b 32 32,sZ u.heap.size k.size K] 23)):=z.trans ((Only.of_below g rfl oM).alloc oM _);go_wp2_with fail
 refine(qK b L ⟨#[97,115,107,101,100]⟩ (some (aZ l.heap.size)) 2 2 [L.toList,k.data.toList] _ dC rfl dC p J O).mono ?_;rintro e w7 ⟨rfl,D,N⟩;have I:Holds encB w7 E 0 (CN L k.data.toList n):=by
  intro j t;have W:=Q j t;have h2:=Xn _ _ W.1;have h3:=D.other (c:=E) (o:=0+j) oM h2;rw[h3.1,h3.2];exact W
 go_wp2
 go_ret2
 exact⟨E,rfl,oM,T.trans D,N,I⟩
end SP
end Go.Proofs.YtdoammpgchejcaaGreat
