import Derived.Deep.AppendSrc
import Derived.Lib.AppendZeros
import Derived.Test.YtlofhpkoaljmeaaGreatat2
set_option linter.unusedVariables false
set_option linter.defProp false
set_option linter.constructorNameAsVariable false
set_option linter.unusedSimpArgs false
set_option maxRecDepth 1000000
set_option maxHeartbeats 4000000
namespace Go.Proofs.YtlofhpkoaljmeaaGreat
open EC NT RG
open _root_.Go.Act renaming put->Ym
open _root_.Array renaming append_assoc->yDt,ext->yEK,getElem?_append_left->yAB,getElem?_append_right->yBg,getElem?_eq_getElem->X8,getElem?_map->yDr,getElem?_toList->YE,getElem_append_left->yBq,getElem_append_right->yCD,getElem_replicate->Zi,getElem_toList->yAi,length_toList->XU,map->yEJ,map_replicate->yDk,replicate->XT,size->Zm,size_append->Yl,size_extract->Z4,size_replicate->X0,size_setIfInBounds->YR,toArray_toList->yAE
open _root_.BitVec renaming eq_of_toNat_eq->yC2,ofInt->yAf,ofInt_natCast->yDa,ofNat->yAX,toNat_ofNat->yBY
open _root_.Bool renaming and_eq_true->XV
open _root_.Classical renaming byContradiction->Zo
open _root_.Fin renaming ext->yA0,ofNat->ZT,val_mul->yAG
open _root_.Go renaming Addr->Y0,Calls->YN,TypeId->Yd,Value->XB,World->XA,bodyPost_ret->XN,sizeOf->yCP,size_madeCells->yBS,undef->Zs,wp_block->YX,wp_cond_false->Yb,wp_cond_true->Yy,wp_exit->yAC,wp_loop_ghost->yCW,wp_ret->Za,wp_seq->XG,wp_skip->YU
open _root_.Go.Addr renaming add->yBT,add_mid->yDi
open _root_.Go.Builtin renaming append_->YG,copy_->yAD
open _root_.Go.Exit renaming inBlock->yBP
open _root_.Go.Instr renaming indexAt->Yv,makeSlice->yAh
open _root_.Go.IntKind renaming bits->yD3,i64->Ya,signed->yDI,u64->Yt,u8->yBc,wrap->yD2,wrap_i64->YD,wrap_u64->ZO
open _root_.Go.IntWalk renaming i64_in->Zn
open _root_.Go.Lib renaming bytesCells->yAL,bytesWorld->yBx,bytesWorld_size->yCd,wpList_append_run->yAj
open _root_.Go.Op renaming eqItems->yDU
open _root_.Go.Result renaming andThen_ok->Yz
open _root_.Go.RowKit.Below renaming heap_setCell->yB6,refl->XR
open _root_.Go.Value renaming agg->X9,int->YW
open _root_.Go.World renaming alloc->yAp,block_lt_of_cell?->ZY,cell?->YZ,cell?_alloc_new->Yr,cell?_of_block->X4,cell?_setCell_other->Yc,cell?_setCell_same->ZI,cell?_setCells_out->yCK,freeze->yBH,frozen?->Zk,frozen?_alloc_new->Zu,frozen?_of_block->Y2,frozen?_setCell->Zq,frozen?_setCells->yCY,setCell->yBt,size_alloc->XP
open _root_.Int renaming emod_eq_of_lt->yDS,natCast_ediv->yBM,natCast_mul->yAm,natCast_pow->yCO,neg_neg->yED,toNat_natCast->yA9
open _root_.List renaming setIfInBounds_toArray->XF,getElem?_cons_zero->Yi,getElem?_cons_succ->Yg,set_cons_zero->XL,set_cons_succ->XJ,nil_append->Z1,cons_append->ZX,cons->yEb,forall_mem_cons->yDg,getElem?_eq_some_iff->XM,getElem?_map->YB,getElem?_toArray->Yj,getElem_map->yAc,length_cons->Yx,length_map->XZ,length_replicate->ZR,mem_cons_of_mem->Yo,mem_cons_self->YH,mem_map->YC,mem_range->Y4,not_mem_nil->Yf,range->YA,replicate->YM,size_toArray->YF,take_of_length_le->yC4
open _root_.Nat renaming add_assoc->ZB,add_mul->yAs,add_sub_cancel_left->ZE,add_zero->yAl,le_add_right->yBK,le_refl->XD,le_trans->XH,lt_of_lt_of_le->XC,lt_succ_self->yBW,min_le_left->yCM,min_le_right->yCF,mod_eq_of_lt->X6,mod_lt->Y8,mul_comm->YK,mul_le_mul->ZD,mul_le_mul_left->yAY,mul_mod->yAW,mul_one->Z5,mul_succ->yBA,ne_of_gt->ZN,not_lt_zero->ZP,pos_of_neZero->yAF,pow_two->yEy,sub_self->yBi,sub_sub->yAV,zero_add->XI,zero_le->Zl
open _root_.Option renaming isSome_iff_exists->YQ,map_eq_some_iff->XE,map_some->yAq,some->XX
open _root_.Or renaming inl->Ye,inr->X7
open _root_.Prod renaming mk->Ze
open _root_.UInt8 renaming ofNat->XS,toNat_ofNat'->yBj
open Go.Proofs.Tryz
open Go.RowKit Go.Sort Go.Deep
variable {P:Nat}[NeZero P]{N:Nat}
def Ni(F:Fld P)(b o k:Nat)(m:k<8)(s:T3 P)(w:XA)(u:b<w.heap.size)(q:w.rangeAt b (o+0+12*k) (tw s)):cZ 115 #[(oZ b o),(.int .i8 (-(2*(k:Int)+1)))] w (rZ w λe w'=>e=tv (opJ s)):=by
 obtain⟨s2,c⟩:=vH (opJ s);have i:=c ▸ Up F s;have d:∀w,(binOp .lss 213 (.int .i8 (-(2*(k:Int)+1))) (.int .i8 0)).run prog w=.ok tZ w:=λw=>by
  go_simp;try omega
 have f:∀w,(Op.unary .neg (.int .i8 (-(2*(k:Int)+1)))).run prog w=.ok (.int .i8 (2*(k:Int)+1)) w:=λw=>by
  rw[P4 oM,yED]
 go_enter func115,ntmps115;refine QB (v0:=(oZ b o)) (v1:=(.int .i8 (-(2*(k:Int)+1)))) (n:=23) kR kR kR kR ?_;intro a0 l r f1;have j:=RG.St.begin w;have x:RG.M w w.heap.size [] 23 [] [] [(0,.v (oZ b o)),(1,.v (.int .i8 (-(2*(k:Int)+1))))] a0 _:=⟨j,l,⟨r,f1,yEZ⟩⟩
 repeat apply XG
 refine x.T [.m 0] [(0,RG.z 12)] [] [RG.z 12] [0,1,4] ⟨mk 0 211,yEZ⟩ ?_;intro A C y t;repeat apply XG
 refine t.U [.x (.int .i8 (-(2*(k:Int)+1))),.x tZ] [0,1,4,6] ⟨st,aN rfl .lss 213 rfl rfl sx (λw=>kR) d,yEZ⟩ ?_;intro a2 B p;repeat apply XG
 refine Yy p.ev ?_;repeat apply XG
 refine p.T [.x (oZ b o),.x (.int .i8 (-(2*(k:Int)+1))),.x (.int .i8 (2*(k:Int)+1)),.x (.int .i8 k),.x (oZ b o),.x (oZ b (o+0)),.x (oZ b ((o+0)+12*k)),.x (tv s),.c (tv s2),.u 0] [] [(0,9,tw s2)] [tw s2] [4] ⟨st,st,OV rfl .neg 213 rfl rfl sx f,aN rfl .quo 213 rfl rfl sx (λw=>kR) (P3 m),st,st,cA rfl 212 rfl (.v (oZ b (o+0))) sx sx (λμ w=>Mn m),eH rfl u Yf rfl rfl sx q iO i117,cl i,RG.pt i117,yEZ⟩ ?_;intro z a g;refine Za<|XN (v:=tv s2) (aH g.st rfl rfl (g.at (s:=(.p 0 0))) iO i117) g.sl.defers ?_
 exact⟨_,rfl,g.st.bel.below,by rw[c]⟩
def Nh(F:Fld P)(b o k:Nat)(i:k<8)(s:T3 P)(w:XA)(t:b<w.heap.size)(p:w.rangeAt b (o+0+12*k) (tw s)):cZ 115 #[(oZ b o),(.int .i8 (2*(k:Int)+1))] w (rZ w λe w'=>e=tv s):=by
 obtain⟨s2,m⟩:=vH (opJ s);have c:∀w,(binOp .lss 213 (.int .i8 (2*(k:Int)+1)) (.int .i8 0)).run prog w=.ok fZ w:=λw=>by
  go_simp;try omega
 have l:∀w,(Op.unary .neg (.int .i8 (-(2*(k:Int)+1)))).run prog w=.ok (.int .i8 (2*(k:Int)+1)) w:=λw=>by
  rw[P4 oM,yED]
 go_enter func115,ntmps115;refine QB (v0:=(oZ b o)) (v1:=(.int .i8 (2*(k:Int)+1))) (n:=23) kR kR kR kR ?_;intro a0 g q f1;have f:=RG.St.begin w;have u:RG.M w w.heap.size [] 23 [] [] [(0,.v (oZ b o)),(1,.v (.int .i8 (2*(k:Int)+1)))] a0 _:=⟨f,g,⟨q,f1,yEZ⟩⟩
 repeat apply XG
 refine u.T [.m 0] [(0,RG.z 12)] [] [RG.z 12] [0,1,4] ⟨mk 0 211,yEZ⟩ ?_;intro a B x r;repeat apply XG
 refine r.U [.x (.int .i8 (2*(k:Int)+1)),.x fZ] [0,1,4,6] ⟨st,aN rfl .lss 213 rfl rfl sx (λw=>kR) c,yEZ⟩ ?_;intro a2 A j;repeat apply XG
 refine Yb j.ev ?_;apply YU;repeat apply XG
 refine j.T [.x (oZ b o),.x (.int .i8 (2*(k:Int)+1)),.x (.int .i8 k),.x (oZ b o),.x (oZ b (o+0)),.x (oZ b ((o+0)+12*k)),.x (tv s),.u 0] [] [(0,7,tw s)] [tw s] [4] ⟨st,st,aN rfl .quo 213 rfl rfl sx (λw=>kR) (P3 i),st,st,cA rfl 212 rfl (.v (oZ b (o+0))) sx sx (λμ w=>Mn i),eH rfl t Yf rfl rfl sx p iO i117,RG.pt i117,yEZ⟩ ?_;intro y z d;refine Za<|XN (v:=tv s) (aH d.st rfl rfl (d.at (s:=(.p 0 0))) iO i117) d.sl.defers ?_
 exact⟨_,rfl,d.st.bel.below,rfl⟩
def tmJ(x y:Fin P)(d:Int):T3 P:=if d<0 then opJ (od x y ((-d).toNat/2)) else od x y (d.toNat/2)
def TM(C:Fld P){x y:Fin P}{p:EC.Pt P}(h:Pair x y p)(b:On p){d:Int}(hd:d%2=1):JacT (tmJ x y d) (dZ d p):=by
 unfold tmJ;by_cases c:d<0
 .rw[yEX c];have k:=(RN C h b ((-d).toNat/2)).neg;rw[<-Cc C.cur b]at k;rw[show -((2*((-d).toNat/2)+1:Nat):Int)=d by omega]at k;exact k
 .rw[yEY c];have k:=RN C h b (d.toNat/2);rw[show((2*(d.toNat/2)+1:Nat):Int)=d by omega]at k;exact k
def inn(ns:Nat->Nat)(xs ys:Nat->Fin P)(st:T3 P)(place:Nat):Nat->T3 P
 | 0=>st
 | i+1=>if fF (ns i) place=0 then inn ns xs ys st place i else plJ (inn ns xs ys st place i) (tmJ (xs i) (ys i) (fF (ns i) place))
def iW(ns:Nat->Nat)(xs ys:Nat->Fin P)(N:Nat):Nat->T3 P
 | 0=>(0,0,0)
 | m+1=>inn ns xs ys (twJ (iW ns xs ys N m)) (256-m) N
def PX(C:Fld P){ns:Nat->Nat}{xs ys:Nat->Fin P}{p:Nat->EC.Pt P}{N:Nat}(b:∀i,i<N->ns i<2^256)(l:∀i,i<N->Pair (xs i) (ys i) (p i))(ho:∀i,i<N->On (p i)){st:T3 P}{g:Nat->Int}{place:Nat}
 (h:JacT st (tot p N g)):∀i,i<=N->JacT (inn ns xs ys st place i) (tot p N (λj=>if j<i then g j+fF (ns j) place else g j))
 | 0,_=>by
  have:tot p N (λj=>if j<0 then g j+fF (ns j) place else g j)=tot p N g:=eJ N λj _=>yEY oM
  rw[this];exact h
 | i+1,hi=>by
  have f:=PX C b l ho (place:=place) h i oM;have e:tot p N (λj=>if j<i+1 then g j+fF (ns j) place else g j)=EC.add (tot p N (λj=>if j<i then g j+fF (ns j) place else g j)) (dZ (fF (ns i) place) (p i)):=by
   rw[<-Nf C.cur (fF (ns i) place) oM ho];refine eJ N λj _=>?_
   by_cases k:j=i
   .subst k;rw[yEX oM,yEX rfl,yEY oM]
   .rw[yEY k];by_cases d:j<i
    .rw[yEX oM,yEX d]
    .rw[yEY oM,yEY d]
  rw[e];unfold inn;by_cases d:fF (ns i) place=0
  .rw[yEX d,d,Hq,bK];exact f
  .rw[yEY d];obtain⟨q,c,-,m⟩:=BJ (b i oM);rcases m.ho place with k|k
   .exact absurd k d
   .exact f.plus C (TM C (l i oM) (ho i oM) k.1)
def Jq(C:Fld P){ns:Nat->Nat}{xs ys:Nat->Fin P}{p:Nat->EC.Pt P}{N:Nat}(k:∀i,i<N->ns i<2^256)(b:∀i,i<N->Pair (xs i) (ys i) (p i))(ho:∀i,i<N->On (p i)):
 ∀m,m<=257->JacT (iW ns xs ys N m) (tot p N (λj=>DG.hor (fF (ns j)) m))
 | 0,_=>by
  rw[show tot p N (λj=>DG.hor (fF (ns j)) 0)=.none from xB p N (λ_ _=>rfl)];exact JacT.none
 | m+1,hm=>by
  have c:=(Jq C k b ho m oM).twice C;rw[<-Hx C.cur ho]at c;have d:=PX C k b ho (place:=256-m) c N (XD _);have e:tot p N (λj=>DG.hor (fF (ns j)) (m+1))=tot p N (λj=>if j<N then 2*DG.hor (fF (ns j)) m+fF (ns j) (256-m) else 2*DG.hor (fF (ns j)) m):=
   eJ N λj f=>by rw[yEX f];rfl
  rw[e];exact d
def Ch(C:Fld P){ns:Nat->Nat}{xs ys:Nat->Fin P}{p:Nat->EC.Pt P}{N:Nat}(k:∀i,i<N->ns i<2^256)(f:∀i,i<N->Pair (xs i) (ys i) (p i))(ho:∀i,i<N->On (p i)):
 JacT (iW ns xs ys N 257) (tot p N (λj=>(ns j:Int))):=by
 have h:=Jq C k f ho 257 (XD _);have e:tot p N (λj=>(ns j:Int))=tot p N (λj=>DG.hor (fF (ns j)) 257):=eJ N λj d=>by
  obtain⟨q,c,b,g⟩:=BJ (k j d);exact(DG.Oy g b).symm
 rw[e];exact h
def cc(ns:Nat->Nat)(xs ys:Nat->Fin P)(C0:List XB):Nat->List XB
 | 0=>C0
 | i+1=>fc (xs i) (ys i) (fF (ns i)) (cc ns xs ys C0 i) (353*i) 8
def Qe{ns:Nat->Nat}{xs ys:Nat->Fin P}{C0:List XB}{N:Nat}(e:C0.length=353*N):∀i,i<=N->(cc ns xs ys C0 i).length=353*N /\
 ∀j,j<i->(∀q,q<257->(cc ns xs ys C0 i)[353*j+96+q]? = some (.int .i8 (fF (ns j) q)))/\∀q r,q<8->r<12->(cc ns xs ys C0 i)[353*j+12*q+r]? = (tw (od (xs j) (ys j) q))[r]?
 | 0,_=>⟨e,λj m=>oM⟩
 | i+1,hi=>by
  obtain⟨f,l⟩:=Qe e i oM;have b:=GI (x:=xs i) (y:=ys i) (D:=fF (ns i)) (C0:=cc ns xs ys C0 i) (off:=353*i) (by rw[f];omega) 8 (XD _);refine⟨by rw[<-f];exact b.len,λj m=>?_⟩;by_cases d:j=i
  .subst d;exact⟨b.dig,λq r k c=>b.odd q r k c⟩
  .obtain⟨n,g⟩:=l j oM;exact⟨λq k=>(b.out _ oM).trans (n q k),λq r k c=>(b.out _ oM).trans (g q r k c)⟩
def Uy{N:Nat}(e:N<=512):∃C0:List XB,C0.length=353*N/\∀w:XA,(yAh 208 (iZ N) (iZ N)).run prog w=.ok (sZ w.heap.size N N) (w.alloc (.cells C0.toArray 216)):=by
 have g:prog.underlying 208=some (.slice 216):=kR;have n:(prog.info? 216).map (λi=>(i.size,decide (i.bytes<=4000),i.zero.isSome))=some (353,true,true):=kR;obtain⟨i,b,k⟩:=XE.1 n;simp only[Ze.injEq,decide_eq_true_eq]at k;obtain⟨f,j,d⟩:=k;obtain⟨z,m⟩:=YQ.1 d;refine⟨(madeCells z.cells (N*353)).toList,by rw[XU,yBS,YK],λw=>?_⟩;have l:(i.bytes:Int)*(N:Int)<=281474976710656:=by
  have:i.bytes*N<=4000*512:=ZD j e;have c:((i.bytes*N:Nat):Int)<=281474976710656:=oM;rwa[yAm]at c
 have:=run_make (P:=prog) w 208 216 i z g b m .i64 .i64 (N:Int) (N:Int) oM oM l oM;rw[yA9,f]at this;rw[yAE];exact this
def LC{x y:Fin P}{C0:List XB}{w:XA}(F:Fld P){b off n:Nat}(d:n<top)(k:off+353<=C0.length)(c:w.there b 0 C0.length)(g:w.rangeAt b 0 C0):
 cZ 112 #[oZ b off,nv n,pv x y] w (Ret λr w'=>PutTo b C0.length (fc x y (fF n) C0 off 8) w w'/\r=.tuple #[]):=by
 have i:b<w.heap.size:=by
  have f:=(c 0 oM).1;exact Zo λd=>by
   have j:w.heap[b]? = none:=Array.getElem?_eq_none oM;simp[YZ,j]at f
 apply(SH F d x y C0 b off k w i c g).mono;rintro e w' ⟨v,rfl,⟨C,f,j⟩,rfl⟩;refine⟨_,rfl,?_,rfl⟩;rw[(GI k 8 (XD _)).uniq f];exact j
def Nj{k o:Nat}{x y:Fin P}{w:XA}(F:Fld P){d:Int}(hd:d%2=1)(i:-15<=d/\d<=15)(c:k<w.heap.size)(g:∀q,q<8->w.rangeAt k (o+0+12*q) (tw (od x y q))):
 cZ 115 #[oZ k o,.int .i8 d] w (rZ w λe w'=>e=tv (tmJ x y d)):=by
 unfold tmJ;by_cases f:d<0
 .rw[yEX f];have b:=Ni F k o ((-d).toNat/2) oM (od x y ((-d).toNat/2)) w c (g _ oM);rw[show -(2*(((-d).toNat/2:Nat):Int)+1)=d by omega]at b;exact b
 .rw[yEY f];have b:=Nh F k o (d.toNat/2) oM (od x y (d.toNat/2)) w c (g _ oM);rw[show 2*((d.toNat/2:Nat):Int)+1=d by omega]at b;exact b
def VJ{P:Nat}[NeZero P](w:XA):(Instr.alloc 211 true (.tuple #[])).run prog w=.ok (jZ w.heap.size) (w.alloc (.cells (tw ((0,0,0):T3 P)).toArray 211)):=by
 show _=Result.ok _ (w.alloc (.cells (ws (0:Fin P)++(ws (0:Fin P)++ws (0:Fin P))).toArray 211));rw[<-A7];kernel_rfl
def Uu(w:XA):(binOp .neq 213 (.int .i8 0) (.int .i8 0)).run prog w=.ok fZ w:=kR
def Ut{d:Int}(h:¬d=0)(w:XA):(binOp .neq 213 (.int .i8 d) (.int .i8 0)).run prog w=.ok tZ w:=by
 go_simp
def sub1'{q:Nat}(k:q<1000)(w:XA):(binOp .sub 3 (iZ q) (iZ 1)).run prog w=.ok (iZ ((q:Int)-1)) w:=DV oM oM w
def geq0'{i:Nat}(w:XA):(binOp .geq 3 (iZ i) (iZ 0)).run prog w=.ok tZ w:=by
 go_simp
def Jo(F:Fld P)(N:Nat)(hN:N<=512)(ns:Nat->Nat)(xs ys:Nat->Fin P)(ko:∀i,i<N->ns i<top)(l o:Nat)(w:XA)(b6:l<w.heap.size)(bd:o<w.heap.size)
 (hn:∀i,i<N->w.rangeAt l (4*i) (wn (ns i))) (ha:∀i,i<N->w.rangeAt o (8*i) (ws (xs i)++ws (ys i))) :
 cZ 66 #[sZ l N N,sZ o N N] w (rZ w λe w'=>∃s,s=iW ns xs ys N 257/\e=pv (s.1*(inv s.2.2*inv s.2.2)) (s.2.1*(inv s.2.2*inv s.2.2)*inv s.2.2)):=by
 obtain⟨C,ku,b4⟩:=Uy (N:=N) hN;have Z:∀(i:Nat) (c2:List XB),fc (xs i) (ys i) (fF (ns i)) (cc ns xs ys C i) (353*i) 8=c2->cc ns xs ys C (i+1)=c2:=λi c2 h=>h
 obtain⟨i,-⟩:∃i:Nat,i=0:=⟨_,rfl⟩
 obtain⟨q,-⟩:∃i:Nat,i=0:=⟨_,rfl⟩
 obtain⟨d,-⟩:∃i:Int,i=0:=⟨_,rfl⟩
 obtain⟨C2,-⟩:∃c:List XB,c=C:=⟨_,rfl⟩
 obtain⟨s,-⟩:∃s:T3 P,s=(0,0,0):=⟨_,rfl⟩
 obtain⟨s2,-⟩:∃s:T3 P,s=(0,0,0):=⟨_,rfl⟩
 obtain⟨s3,-⟩:∃s:T3 P,s=(0,0,0):=⟨_,rfl⟩
 obtain⟨s4,-⟩:∃s:T3 P,s=(0,0,0):=⟨_,rfl⟩
 go_enter func66,ntmps66;refine QB (v0:=(sZ l N N)) (v1:=(sZ o N N)) (n:=62) kR kR kR kR ?_;intro a0 b2 f0 f1;have bk:=RG.St.begin w;have M0:RG.M w w.heap.size [] 62 [] [] [(0,.v (sZ l N N)),(1,.v (sZ o N N))] a0 _:=⟨bk,b2,⟨f0,f1,yEZ⟩⟩
 repeat apply XG
 refine M0.T [.m 0] [(0,RG.z 8)] [] [RG.z 8] [0,1,4] ⟨mk 0 131,yEZ⟩ ?_;intro j1 a1 w1 M1;repeat apply XG
 refine M1.t [.x 11 [] (sZ l N N),.x 12 [(11,0)] (iZ N),⟨some 13,[(12,1)],.s 1 N N,.make 1⟩,.s 5 [(13,2)] (.s 1 N N)] [(2,C)] [] [RG.z 8,C] [(0,.v (sZ l N N)),(1,.v (sZ o N N)),(4,.p 0 0),(5,.s 1 N N)] ⟨st,oI rfl (t:=11) (.v (sZ l N N)) (iZ N) rfl sx (λa w=>kR) (λμ w=>kR),ET 1 rfl rfl (T:=208) (E:=216) (t1:=12) (t2:=12) (n:=N) rfl rfl sx sx b4,st,yEZ⟩ ?_;intro j2 a2 w2 M2;repeat apply XG
 refine M2.U [.s (.s 1 N N),.x (iZ N),.x (iZ 0)] [0,1,4,5,15,16] ⟨st,oI rfl (t:=14) (.s 1 N N) (iZ N) rfl sx (λa w=>kR) (λμ w=>kR),st,yEZ⟩ ?_;intro a3 w3 M3;have kj:a3.tmps[0]? = some (sZ l N N):=M3.at (s:=(.v (sZ l N N)));have kb:a3.tmps[1]? = some (sZ o N N):=M3.at (s:=(.v (sZ o N N)));have kh:a3.tmps[4]? = some (jZ j1):=M3.at (s:=(.p 0 0));have kk:a3.tmps[5]? = some (sZ j2 N N):=M3.at (s:=(.s 1 N N));have k7:a3.tmps[15]? = some (iZ N):=M3.at (s:=(.v (iZ N)));have hl:a3.tmps[16]? = some (iZ 0):=M3.at (s:=(.v (iZ 0)));repeat apply XG
 refine YX<|yCW (λm a wr=>∃i,i+m=N/\Sl a 62/\a.tmps[0]? = some (sZ l N N)/\a.tmps[1]? = some (sZ o N N)/\a.tmps[4]? = some (jZ j1)/\a.tmps[5]? = some (sZ j2 N N)/\a.tmps[15]? = some (iZ N)/\a.tmps[16]? = some (iZ i)/\RG.St w w.heap.size [] [[uZ 0,uZ 0,uZ 0,uZ 0,uZ 0,uZ 0,uZ 0,uZ 0],cc ns xs ys C i] [j1,j2] wr) N ⟨0,oM,M3.sl,kj,kb,kh,kk,k7,hl,M3.st⟩ ?_
 intro m a wr;rintro⟨i,bc,sl,p0,p1,p4,p5,kf,km,R⟩;generalize j1=y at p4 R;generalize j2=x at p5 R;obtain⟨C,kd⟩:=vH (cc ns xs ys C i);have Y:=Qe (ns:=ns) (xs:=xs) (ys:=ys) ku i oM;rw[kd]at R Y;by_cases z:i<N
 .obtain⟨C2,p⟩:=vH (fc (xs i) (ys i) (fF (ns i)) C (353*i) 8);have B:353*i+353<=C.length:=by rw[Y.1];omega
  have M:C2.length=C.length:=p ▸ (GI B 8 (XD _)).len;have D:∀(k:Nat) (w:XA),w.there k 0 C.length->w.rangeAt k 0 C->cZ 112 #[oZ k (353*i),nv (ns i),pv (xs i) (ys i)] w (Ret λr w'=>PutTo k C.length C2 w w'/\r=.tuple #[]):=λk w Q hr=>p ▸ LC F (ko i z) (x:=(xs i)) (y:=(ys i)) (C0:=C) (b:=k) (off:=(353*i)) B (w:=w) Q hr
  have S:w.rangeAt l (0+4*i) (wn (ns i)):=by rw[XI];exact hn i z
  have K:w.rangeAt o (0+8*i) (ws (xs i)++ws (ys i)):=by rw[XI];exact ha i z
  have O:RG.M w w.heap.size [] 62 [RG.z 8,C] [y,x] [(0,.v (sZ l N N)),(1,.v (sZ o N N)),(4,.p 0 0),(5,.s 1 N N),(15,.v (iZ N)),(16,.v (iZ i))] a _:=⟨R,sl,⟨p0,p1,p4,p5,kf,km,yEZ⟩⟩
  repeat apply XG
  refine O.U [.x tZ] [0,1,4,5,15,16,17] ⟨aX rfl .lss (T:=3) 3 (t1:=16) (t2:=15) (v1:=(iZ i)) (v2:=(iZ N)) (v:=tZ) rfl rfl sx sx (λw=>kR) (qS z),yEZ⟩ ?_;intro bs W J;repeat apply XG
  refine Yy J.ev ?_;refine YU<|XG<|YX ?_
  repeat apply XG
  refine J.U [.x (iZ i),.x (iZ i)] [0,1,4,5,6,15,16] ⟨st,st,yEZ⟩ ?_;intro U X T;repeat apply XG
  refine T.dr kR [.s 19 [] (.s 1 N N),.x 20 [] (iZ i),.s 21 [(19,0),(20,1)] (.p 1 (353*i)),.x 22 [] (sZ l N N),.x 23 [] (iZ i),.x 24 [(22,3),(23,4)] (oZ l (0+4*i)),.x 25 [(24,5)] (nv (ns i)),.x 26 [] (sZ o N N),.x 27 [] (iZ i),.x 28 [(26,7),(27,8)] (oZ o (0+8*i)),.x 29 [(28,9)] (pv (xs i) (ys i)),⟨some 30,[(21,2),(25,6),(29,10)],.v (.tuple #[]),.put 1⟩] [] [(1,11,C2)] [RG.z 8,C2] [(0,.v (sZ l N N)),(1,.v (sZ o N N)),(4,.p 0 0),(5,.s 1 N N),(15,.v (iZ N)),(16,.v (iZ i))] kR (congrArg (λn=>[n]) M) ⟨st,st,cA rfl 208 (t:=19) (u:=20) rfl (.s 1 N N) (iv:=(iZ i)) sx sx (λμ w=>G9 (i:=i) z (w:=w)),st,st,cA rfl 127 (t:=22) (u:=23) rfl (.v (sZ l N N)) (iv:=(iZ i)) sx sx (λμ w=>Xq (i:=i) z (w:=w)),eH rfl (k:=l) (off:=(0+4*i)) b6 Yf (T:=42) (t:=24) rfl (cs:=(wn (ns i))) rfl sx S u85 i85,st,st,cA rfl 138 (t:=26) (u:=27) rfl (.v (sZ o N N)) (iv:=(iZ i)) sx sx (λμ w=>VD (i:=i) z (w:=w)),eH rfl (k:=o) (off:=(0+8*i)) bd Yf (T:=131) (t:=28) rfl (cs:=(ws (xs i)++ws (ys i))) rfl sx K iQ i109,Ag 1 rfl rfl 112 (t1:=21) (t2:=25) (j:=29) (.p 1 (353*i)) (v2:=(nv (ns i))) (d:=(pv (xs i) (ys i))) (.tuple #[]) rfl (λa w=>kR) sx sx sx (λμ w Q hr=>D (μ 1) w Q hr),yEZ⟩ ?_;intro c0 bv L;repeat apply XG
  refine L.U [.x (iZ ((i+1:Nat):Int)),.x (iZ ((i+1:Nat):Int))] [0,1,4,5,15,16] ⟨aN rfl .add (T:=3) 3 (t1:=16) (v1:=(iZ i)) (v2:=(iZ 1)) (v:=(iZ ((i+1:Nat):Int))) rfl rfl sx (λw=>kR) (B7 (a:=i) (b:=1) oM oM),st,yEZ⟩ ?_;intro g V f;have G:g.tmps[0]? = some (sZ l N N):=f.at (s:=(.v (sZ l N N)));have H:g.tmps[1]? = some (sZ o N N):=f.at (s:=(.v (sZ o N N)));have E:g.tmps[4]? = some (jZ y):=f.at (s:=(.p 0 0));have I:g.tmps[5]? = some (sZ x N N):=f.at (s:=(.s 1 N N));have A:g.tmps[15]? = some (iZ N):=f.at (s:=(.v (iZ N)));have u:g.tmps[16]? = some (iZ ((i+1:Nat):Int)):=f.at (s:=(.v (iZ ((i+1:Nat):Int))));show ∃n',_;refine⟨m-1,oM,i+1,oM,f.sl,G,H,E,I,A,u,?_⟩;rw[Z i C2 (by rw[kd];exact p)];exact f.st
 .have bi:i=N:=oM;rw[bi]at Y;have kw:=Y.2;have kz:RG.M w w.heap.size [] 62 [RG.z 8,C] [y,x] [(0,.v (sZ l N N)),(1,.v (sZ o N N)),(4,.p 0 0),(5,.s 1 N N),(15,.v (iZ N)),(16,.v (iZ i))] a _:=⟨R,sl,⟨p0,p1,p4,p5,kf,km,yEZ⟩⟩
  repeat apply XG
  refine kz.U [.x fZ] [4,5,17] ⟨aX rfl .lss (T:=3) 3 (t1:=16) (t2:=15) (v1:=(iZ i)) (v2:=(iZ N)) (v:=fZ) rfl rfl sx sx (λw=>kR) (yK z),yEZ⟩ ?_;intro bn bo kc;repeat apply XG
  refine Yb kc.ev ?_;apply yAC;dsimp only[Exit.then,yBP];rw[yEX rfl];repeat apply XG
  refine kc.T [.m 2] [(0,tw ((0,0,0):T3 P))] [] [RG.z 8,C,tw ((0,0,0):T3 P)] [4,5,7] ⟨qW 2 rfl rfl rfl (T:=211) rfl VJ,yEZ⟩ ?_;intro T bu bq b7;repeat apply XG
  refine b7.U [.x (iZ 256)] [4,5,7,8] ⟨st,yEZ⟩ ?_;intro h3 bp I;have hk:h3.tmps[4]? = some (jZ y):=I.at (s:=(.p 0 0));have hs:h3.tmps[5]? = some (sZ x N N):=I.at (s:=(.s 1 N N));have k2:h3.tmps[7]? = some (jZ T):=I.at (s:=(.p 2 0));have hb:h3.tmps[8]? = some (iZ 256):=I.at (s:=(.v (iZ 256)));repeat apply XG
  apply YX;refine yCW (λm a wr=>m<=257/\Sl a 62/\a.tmps[4]? = some (jZ y)/\a.tmps[5]? = some (sZ x N N)/\a.tmps[7]? = some (jZ T)/\a.tmps[8]? = some (iZ ((m:Int)-1))/\RG.St w w.heap.size [] [[uZ 0,uZ 0,uZ 0,uZ 0,uZ 0,uZ 0,uZ 0,uZ 0],C,tw (iW ns xs ys N (257-m))] [y,x,T] wr) 257 ⟨XD _,I.sl,hk,hs,k2,hb,?_⟩ ?_
  .rw[yBi,iW];exact I.st
  intro m b wr;rintro⟨hm,kg,q4,q5,q7,q8,G⟩;generalize T=L at q7 G;by_cases hz:m=0
  .subst hz;rw[show 257-0=257 from rfl]at G;obtain⟨s,M⟩:=vH (iW ns xs ys N 257);rw[M]at G;have p:RG.M w w.heap.size [] 62 [RG.z 8,C,tw s] [y,x,L] [(4,.p 0 0),(5,.s 1 N N),(7,.p 2 0),(8,.v (iZ (-1)))] b _:=⟨G,kg,⟨q4,q5,q7,q8,yEZ⟩⟩
   repeat apply XG
   refine p.U [.x (iZ (-1)),.x fZ] [4,7,33] ⟨st,st,yEZ⟩ ?_;intro B A g;repeat apply XG
   refine Yb g.ev ?_;apply yAC;dsimp only[Exit.then,yBP];rw[yEX rfl];repeat apply XG
   refine g.T [.x (tv s),.c (pv (s.1*(inv s.2.2*inv s.2.2)) (s.2.1*(inv s.2.2*inv s.2.2)*inv s.2.2)),.u 0] [] [(0,2,ws (s.1*(inv s.2.2*inv s.2.2))++(ws (s.2.1*(inv s.2.2*inv s.2.2)*inv s.2.2)))] [ws (s.1*(inv s.2.2*inv s.2.2))++(ws (s.2.1*(inv s.2.2*inv s.2.2)*inv s.2.2)),C,tw s] [4] ⟨ld iO i117,cl (Uf F s),RG.pt i109,yEZ⟩ ?_;intro D u f;refine Za<|XN (v:=pv (s.1*(inv s.2.2*inv s.2.2)) (s.2.1*(inv s.2.2*inv s.2.2)*inv s.2.2)) (aH f.st (t:=4) (T:=131) rfl (b:=0) rfl (f.at (s:=(.p 0 0))) iQ i109) f.sl.defers ?_
   exact⟨_,rfl,f.st.bel.below,s,M.symm,rfl⟩
  .obtain⟨q,rfl⟩:∃q,m=q+1:=⟨m-1,oM⟩
   have hq:q<257:=oM;replace q8:b.tmps[8]? = some (iZ q):=by rw[q8];congr 2;omega
   obtain⟨s,M⟩:=vH (iW ns xs ys N (257-(q+1)));rw[M]at G;obtain⟨s2,h4⟩:=vH (twJ s);have ky:=h4 ▸ Pr F s;have J:iW ns xs ys N (257-q)=inn ns xs ys s2 q N:=by
    rw[show 257-q=257-(q+1)+1 by omega];show inn ns xs ys (twJ (iW ns xs ys N (257-(q+1)))) (256-(257-(q+1))) N=_;rw[M,h4,show 256-(257-(q+1))=q by omega]
   have b5:RG.M w w.heap.size [] 62 [RG.z 8,C,tw s] [y,x,L] [(4,.p 0 0),(5,.s 1 N N),(7,.p 2 0),(8,.v (iZ q))] b _:=⟨G,kg,⟨q4,q5,q7,q8,yEZ⟩⟩
   repeat apply XG
   refine b5.U [.x (iZ q),.x tZ] [4,5,7,8,33] ⟨st,aN rfl .geq (T:=3) 3 (t1:=32) (v1:=(iZ q)) (v2:=(iZ 0)) (v:=tZ) rfl rfl sx (λw=>kR) (geq0' (i:=q)),yEZ⟩ ?_;intro bm bz ki;repeat apply XG
   refine Yy ki.ev ?_;refine YU<|XG<|YX ?_
   repeat apply XG
   refine ki.T [.x (tv s),.c (tv s2),.u 2] [] [(2,2,tw s2)] [RG.z 8,C,tw s2] [4,5,7,8] ⟨ld iO i117,cl ky,RG.pt i117,yEZ⟩ ?_;intro bt c3 ks;repeat apply XG
   refine ks.U [.s (.s 1 N N),.x (iZ N),.x (iZ 0)] [4,5,7,8,39,40] ⟨st,oI rfl (t:=38) (.s 1 N N) (iZ N) rfl sx (λa w=>kR) (λμ w=>kR),st,yEZ⟩ ?_;intro H bl A;have h9:H.tmps[4]? = some (jZ y):=A.at (s:=(.p 0 0));have k1:H.tmps[5]? = some (sZ x N N):=A.at (s:=(.s 1 N N));have k4:H.tmps[7]? = some (jZ L):=A.at (s:=(.p 2 0));have k9:H.tmps[8]? = some (iZ q):=A.at (s:=(.v (iZ q)));have h0:H.tmps[39]? = some (iZ N):=A.at (s:=(.v (iZ N)));have W:H.tmps[40]? = some (iZ 0):=A.at (s:=(.v (iZ 0)));repeat apply XG
   refine YX<|yCW (λm a wr=>∃i,i+m=N/\Sl a 62/\a.tmps[4]? = some (jZ y)/\a.tmps[5]? = some (sZ x N N)/\a.tmps[7]? = some (jZ L)/\a.tmps[8]? = some (iZ q)/\a.tmps[39]? = some (iZ N)/\a.tmps[40]? = some (iZ i)/\RG.St w w.heap.size [] [[uZ 0,uZ 0,uZ 0,uZ 0,uZ 0,uZ 0,uZ 0,uZ 0],C,tw (inn ns xs ys s2 q i)] [y,x,L] wr) N ⟨0,oM,A.sl,h9,k1,k4,k9,h0,W,A.st⟩ ?_
   intro m' c wr;rintro⟨i,bc,hy,r4,r5,r7,r8,hw,h8,X⟩;obtain⟨s,D⟩:=vH (inn ns xs ys s2 q i);rw[D]at X;by_cases z:i<N
   .obtain⟨h1,h2⟩:=kw i z;obtain⟨d,S⟩:=vH (fF (ns i) q);have u:=S ▸ h1 q hq;have ke:C≠[]:=by intro h;rw[h]at u;simp at u
    have f:inn ns xs ys s2 q (i+1)=if d=0 then s else plJ s (tmJ (xs i) (ys i) d):=by rw[<-D,<-S];rfl
    by_cases Q:d=0
    .rw[yEX Q]at f;rw[Q]at u;have he:RG.M w w.heap.size [] 62 [RG.z 8,C,tw s] [y,x,L] [(4,.p 0 0),(5,.s 1 N N),(7,.p 2 0),(8,.v (iZ q)),(39,.v (iZ N)),(40,.v (iZ i))] c _:=⟨X,hy,⟨r4,r5,r7,r8,hw,h8,yEZ⟩⟩
     repeat apply XG
     refine he.U [.x tZ] [4,5,7,8,39,40,41] ⟨aX rfl .lss (T:=3) 3 (t1:=40) (t2:=39) (v1:=(iZ i)) (v2:=(iZ N)) (v:=tZ) rfl rfl sx sx (λw=>kR) (qS z),yEZ⟩ ?_;intro b9 b3 K;repeat apply XG
     refine Yy K.ev ?_;refine YU<|XG<|YX ?_
     repeat apply XG
     refine K.U [.x (iZ i),.x (iZ i)] [4,5,7,8,9,39,40] ⟨st,st,yEZ⟩ ?_;intro b8 bh hg;repeat apply XG
     refine hg.U [.s (.s 1 N N),.x (iZ i),.x (iZ q),.s (.p 1 (353*i)),.s (.p 1 ((353*i)+96)),.s (.p 1 (((353*i)+96)+q)),.x (.int .i8 0),.x (.int .i8 0)] [4,5,7,8,10,39,40] ⟨st,st,st,cA rfl 208 (t:=43) (u:=44) rfl (.s 1 N N) (iv:=(iZ i)) sx sx (λμ w=>G9 (i:=i) z (w:=w)),st,cA rfl 214 (t:=47) (u:=45) rfl (.p 1 ((353*i)+96)) (iv:=(iZ q)) sx sx (λμ w=>Mm _ _ (i:=q) hq w),zL rfl (b:=1) (off:=(((353*i)+96)+q)) rfl rfl kR (T:=213) (t:=48) rfl (v:=(.int .i8 0)) rfl sx u TL,st,yEZ⟩ ?_;intro be ba hp;repeat apply XG
     refine hp.U [.x (.int .i8 0),.x fZ] [4,5,7,8,39,40,51] ⟨st,aN rfl .neq (T:=213) 213 (t1:=50) (v1:=(.int .i8 0)) (v2:=(.int .i8 0)) (v:=fZ) rfl rfl sx (λw=>kR) Uu,yEZ⟩ ?_;intro bf bj O;repeat apply XG
     refine Yb O.ev ?_;apply YU;repeat apply XG
     refine O.U [.x (iZ ((i+1:Nat):Int)),.x (iZ ((i+1:Nat):Int))] [4,5,7,8,39,40] ⟨aN rfl .add (T:=3) 3 (t1:=40) (v1:=(iZ i)) (v2:=(iZ 1)) (v:=(iZ ((i+1:Nat):Int))) rfl rfl sx (λw=>kR) (B7 (a:=i) (b:=1) oM oM),st,yEZ⟩ ?_;intro B kv g;have U:B.tmps[4]? = some (jZ y):=g.at (s:=(.p 0 0));have k3:B.tmps[5]? = some (sZ x N N):=g.at (s:=(.s 1 N N));have V:B.tmps[7]? = some (jZ L):=g.at (s:=(.p 2 0));have k8:B.tmps[8]? = some (iZ q):=g.at (s:=(.v (iZ q)));have E:B.tmps[39]? = some (iZ N):=g.at (s:=(.v (iZ N)));have p:B.tmps[40]? = some (iZ ((i+1:Nat):Int)):=g.at (s:=(.v (iZ ((i+1:Nat):Int))));show ∃n',_;exact⟨m'-1,oM,i+1,oM,g.sl,U,k3,V,k8,E,p,by rw[f];exact g.st⟩
    .rw[yEY Q]at f;have h5:d%2=1/\-15<=d/\d<=15:=by
      obtain⟨_,_,-,p⟩:=BJ (show ns i<2^256 from ko i z);rcases p.ho q with h|h
      .exact absurd (S ▸ h) Q
      .exact S ▸ h
     obtain⟨s3,h6⟩:=vH (tmJ (xs i) (ys i) d);obtain⟨s4,h7⟩:=vH (plJ s s3);have kp:=h7 ▸ PD F s s3;have kx:∀(k:Nat) (w:XA),k<w.heap.size->w.rangeAt k 0 C->cZ 115 #[oZ k (353*i),.int .i8 d] w (rZ w λr w'=>r=tv s3):=λk w k0 hr =>
      h6 ▸ Nj F (k:=k) (o:=(353*i)) (x:=(xs i)) (y:=(ys i)) h5.1 h5.2 (w:=w) k0 (λU p=>H9 hr (λj E=>by rw[yAl];exact h2 U j p (by rw[cI]at E;exact E)))
     rw[h6,h7]at f;have he:RG.M w w.heap.size [] 62 [RG.z 8,C,tw s] [y,x,L] [(4,.p 0 0),(5,.s 1 N N),(7,.p 2 0),(8,.v (iZ q)),(39,.v (iZ N)),(40,.v (iZ i))] c _:=⟨X,hy,⟨r4,r5,r7,r8,hw,h8,yEZ⟩⟩
     repeat apply XG
     refine he.U [.x tZ] [4,5,7,8,39,40,41] ⟨aX rfl .lss (T:=3) 3 (t1:=40) (t2:=39) (v1:=(iZ i)) (v2:=(iZ N)) (v:=tZ) rfl rfl sx sx (λw=>kR) (qS z),yEZ⟩ ?_;intro b9 b3 K;repeat apply XG
     refine Yy K.ev ?_;refine YU<|XG<|YX ?_
     repeat apply XG
     refine K.U [.x (iZ i),.x (iZ i)] [4,5,7,8,9,39,40] ⟨st,st,yEZ⟩ ?_;intro b8 bh hg;repeat apply XG
     refine hg.U [.s (.s 1 N N),.x (iZ i),.x (iZ q),.s (.p 1 (353*i)),.s (.p 1 ((353*i)+96)),.s (.p 1 (((353*i)+96)+q)),.x (.int .i8 d),.x (.int .i8 d)] [4,5,7,8,9,10,39,40] ⟨st,st,st,cA rfl 208 (t:=43) (u:=44) rfl (.s 1 N N) (iv:=(iZ i)) sx sx (λμ w=>G9 (i:=i) z (w:=w)),st,cA rfl 214 (t:=47) (u:=45) rfl (.p 1 ((353*i)+96)) (iv:=(iZ q)) sx sx (λμ w=>Mm _ _ (i:=q) hq w),zL rfl (b:=1) (off:=(((353*i)+96)+q)) rfl rfl kR (T:=213) (t:=48) rfl (v:=(.int .i8 d)) rfl sx u TL,st,yEZ⟩ ?_;intro be ba hp;repeat apply XG
     refine hp.U [.x (.int .i8 d),.x tZ] [4,5,7,8,9,10,39,40,51] ⟨st,aN rfl .neq (T:=213) 213 (t1:=50) (v1:=(.int .i8 d)) (v2:=(.int .i8 0)) (v:=tZ) rfl rfl sx (λw=>kR) (Ut Q),yEZ⟩ ?_;intro bf bj O;repeat apply XG
     refine Yy O.ev ?_;repeat apply XG
     refine O.D [.x (tv s),.s (.s 1 N N),.x (iZ i),.s (.p 1 (353*i)),.x (.int .i8 d),.c (tv s3),.c (tv s4),.u 2] [] [(2,7,tw s4)] [RG.z 8,C,tw s4] [4,5,7,8,39,40] ⟨ld iO i117,st,st,cA rfl 208 (t:=53) (u:=54) rfl (.s 1 N N) (iv:=(iZ i)) sx sx (λμ w=>G9 (i:=i) z (w:=w)),st,Df rfl 1 rfl rfl kR ke 115 (t1:=55) (t2:=56) (.p 1 (353*i)) (v2:=(.int .i8 d)) (tv s3) rfl (λa w=>kR) sx sx (λμ w k0 hr=>kx (μ 1) w k0 hr),cl kp,RG.pt i117,yEZ⟩ ?_;intro B kv g;repeat apply XG
     refine g.U [.x (iZ ((i+1:Nat):Int)),.x (iZ ((i+1:Nat):Int))] [4,5,7,8,39,40] ⟨aN rfl .add (T:=3) 3 (t1:=40) (v1:=(iZ i)) (v2:=(iZ 1)) (v:=(iZ ((i+1:Nat):Int))) rfl rfl sx (λw=>kR) (B7 (a:=i) (b:=1) oM oM),st,yEZ⟩ ?_;intro E br p;have hu:E.tmps[4]? = some (jZ y):=p.at (s:=(.p 0 0));have hc:E.tmps[5]? = some (sZ x N N):=p.at (s:=(.s 1 N N));have k5:E.tmps[7]? = some (jZ L):=p.at (s:=(.p 2 0));have k6:E.tmps[8]? = some (iZ q):=p.at (s:=(.v (iZ q)));have U:E.tmps[39]? = some (iZ N):=p.at (s:=(.v (iZ N)));have V:E.tmps[40]? = some (iZ ((i+1:Nat):Int)):=p.at (s:=(.v (iZ ((i+1:Nat):Int))));show ∃n',_;exact⟨m'-1,oM,i+1,oM,p.sl,hu,hc,k5,k6,U,V,by rw[f];exact p.st⟩
   .have K:i=N:=oM;rw[K]at D;rw[D]at J;have Q:RG.M w w.heap.size [] 62 [RG.z 8,C,tw s] [y,x,L] [(4,.p 0 0),(5,.s 1 N N),(7,.p 2 0),(8,.v (iZ q)),(39,.v (iZ N)),(40,.v (iZ i))] c _:=⟨X,hy,⟨r4,r5,r7,r8,hw,h8,yEZ⟩⟩
    repeat apply XG
    refine Q.U [.x fZ] [4,5,7,8,41] ⟨aX rfl .lss (T:=3) 3 (t1:=40) (t2:=39) (v1:=(iZ i)) (v2:=(iZ N)) (v:=fZ) rfl rfl sx sx (λw=>kR) (yK z),yEZ⟩ ?_;intro S V O;repeat apply XG
    refine Yb O.ev ?_;apply yAC;dsimp only[Exit.then,yBP];rw[yEX rfl];repeat apply XG
    refine O.U [.x (iZ q),.x (iZ ((q:Int)-1)),.x (iZ ((q:Int)-1))] [4,5,7,8] ⟨st,aN rfl .sub (T:=3) 3 (t1:=34) (v1:=(iZ q)) (v2:=(iZ 1)) (v:=(iZ ((q:Int)-1))) rfl rfl sx (λw=>kR) (sub1' (q:=q) oM),st,yEZ⟩ ?_;intro g U f;have B:g.tmps[4]? = some (jZ y):=f.at (s:=(.p 0 0));have p:g.tmps[5]? = some (sZ x N N):=f.at (s:=(.s 1 N N));have E:g.tmps[7]? = some (jZ L):=f.at (s:=(.p 2 0));have u:g.tmps[8]? = some (iZ ((q:Int)-1)):=f.at (s:=(.v (iZ ((q:Int)-1))));show ∃n',_;exact⟨q,yBW q,oM,f.sl,B,p,E,u,by rw[J];exact f.st⟩
def rt(m:Fin P):Option (Fin P):=if m.val^(P/4+1)%P*(m.val^(P/4+1)%P)%P=m.val then some (ZT P (even P (m.val^(P/4+1)%P))) else none
omit [NeZero P] in
theorem GK{r:Nat}(k:0<P)(h:r<P):even P r<P:=by unfold even;split<;>omega
def NG{m y:Fin P}{v:XB}(h:rt m=some y)(k:Four v (even P (m.val^(P/4+1)%P))):v=fv y:=by
 unfold rt at h;split at h
 .obtain rfl:=XX.inj h;have:(ZT P (even P (m.val^(P/4+1)%P))).val=even P (m.val^(P/4+1)%P):=X6 (GK (yAF P) (Y8 _ (yAF P)));show v=nv _;rw[this];exact k.nv
 .cases h
def JK{m y:Fin P}(h:rt m=some y):m.val^(P/4+1)%P*(m.val^(P/4+1)%P)%P=m.val:=by
 unfold rt at h;split at h
 .assumption
 .cases h
def TY{m:Fin P}(h:rt m=none):¬m.val^(P/4+1)%P*(m.val^(P/4+1)%P)%P=m.val:=by
 unfold rt at h;split at h
 .cases h
 .assumption
def RootR.val{m:Fin P}{e:XB}(h:RootR P m.val (m.val^(P/4+1)%P) e):(∀y,rt m=some y->e=.tuple #[fv y,tZ])/\(rt m=none->e=.tuple #[fv (0:Fin P),fZ]):=by
 obtain⟨g,j,l,i,ok,rfl,k,f,c⟩:=h;refine⟨λy b=>?_,λd=>?_⟩
 .cases ok with
  | true=>rw[NG b (k rfl).2]
  | false=>exact absurd (JK b) (f rfl)
 .cases ok with
  | true=>exact absurd (k rfl).1 (TY d)
  | false =>
   obtain⟨rfl,rfl,rfl,rfl⟩:=c rfl;rw[<-mA];rfl
def Tk(h:Fld P){m y:Fin P}(e:rt m=some y):Gives 177 #[gv0,fv m] (.tuple #[fv y,tZ]):=λw =>
 (Dp 4294968273 0 0 P _ m.val h.gap h.p4 (h.four m) w).mono (by rintro e' w' ⟨v,rfl,b,k⟩;exact⟨_,rfl,b,k.val.1 y e⟩)
def Tn(h:Fld P){m:Fin P}(e:rt m=none):Gives 177 #[gv0,fv m] (.tuple #[fv (0:Fin P),fZ]):=λw =>
 (Dp 4294968273 0 0 P _ m.val h.gap h.p4 (h.four m) w).mono (by rintro e' w' ⟨v,rfl,b,k⟩;exact⟨_,rfl,b,k.val.2 e⟩)
def gl0:List XB:=[uZ 4294968273,uZ 0,uZ 0,uZ 0]
def A0(C:Fld P)(x y:Fin P)(l:rt (x*x*x+7)=some y):Gives 119 #[(fv x)] (.tuple #[pv x y,tZ]):=by
 intro w;obtain⟨c1,e⟩:∃c,c=x*x:=⟨_,rfl⟩
 obtain⟨c2,i⟩:∃c,c=c1*x:=⟨_,rfl⟩
 obtain⟨k,g⟩:∃c,c=c2+(7:Fin P):=⟨_,rfl⟩
 have d:((.tuple #[pv x y,tZ]):XB)=(.tuple #[pv x y,tZ]):=by
  subst_vars;rfl
 rw[<-d];go_enter func119,ntmps119;refine RG.M.enter [(0,.v (fv x))] 31 kR ?_;intro a0 p;repeat apply XG
 refine p.T [.m 0,.m 1,.x fZ] [(0,ws x),(1,RG.z 8)] [] [ws x,RG.z 8] [1,2,3] ⟨mk 0 42,mk 1 131,st,yEZ⟩ ?_;intro A L I r n;repeat apply XG
 refine n.T [.c gv0,.m 2,.u 2] [(1,RG.z 4)] [(2,2,gl0)] [ws x,RG.z 8,gl0] [1,2,3,4] ⟨cl bM,mk 2 78,RG.pt i79,yEZ⟩ ?_;intro K a2 E o;repeat apply XG
 refine o.D [.x gv0,.x gv0,.x gv0,.x (fv x),.x (fv x),.c (fv c1),.x (fv x),.c (fv c2),.x (fv (7:Fin P)),.c (fv k),.m 3,.u 3] [(10,RG.z 4)] [(3,11,ws k)] [ws x,RG.z 8,gl0,ws k] [1,2,3,4,5] ⟨ld u79 i79,ld u79 i79,ld u79 i79,ld u85 i85,ld u85 i85,cl ((sN C).e e),ld u85 i85,cl ((sN C).e i),se (Cm C),cl ((Hj C).e g),mk 3 42,RG.pt i85,yEZ⟩ ?_;intro H u a q;repeat apply XG
 refine q.T [.x gv0,.x (fv k),.c (.tuple #[fv y,tZ]),.x (.tuple #[fv y,tZ]),.x (fv y),.x tZ,.m 4,.u 4,.x tZ] [(6,RG.z 4)] [(4,7,ws y)] [ws x,RG.z 8,gl0,ws k,ws y] [1,2,3,6,7] ⟨ld u79 i79,ld u85 i85,cl (f:=177) (args:=#[gv0,fv k]) (v:=(.tuple #[fv y,tZ])) (Tk C (by subst_vars;exact l)),st,st,st,mk 4 42,RG.pt i85,st,yEZ⟩ ?_;intro G J D m;repeat apply XG
 refine m.U [.x tZ,.x fZ] [1,2,3,6,26] ⟨st,st,yEZ⟩ ?_;intro z B j;repeat apply XG
 refine Yb j.ev ?_;apply YU;repeat apply XG
 refine j.T [.x (fv x),.x (fv y),.x (pv x y),.u 1,.x tZ] [] [(1,3,ws x++(ws y))] [ws x,ws x++(ws y),gl0,ws k,ws y] [2,3] ⟨ld u85 i85,ld u85 i85,st,RG.pt i109,st,yEZ⟩ ?_;intro F t b;refine Za<|XN (v:=(.tuple #[pv x y,tZ])) (cU b.st rfl rfl (b.at (s:=(.p 1 0))) (b.at (s:=(.v tZ))) iQ i109) b.sl.defers ?_
 exact⟨_,rfl,b.st.bel.below,rfl⟩
def A3(C:Fld P)(x:Fin P)(l:rt (x*x*x+7)=none):Gives 119 #[(fv x)] (.tuple #[pv (0:Fin P) 0,fZ]):=by
 intro w;obtain⟨c1,e⟩:∃c,c=x*x:=⟨_,rfl⟩
 obtain⟨c2,i⟩:∃c,c=c1*x:=⟨_,rfl⟩
 obtain⟨k,g⟩:∃c,c=c2+(7:Fin P):=⟨_,rfl⟩
 have d:((.tuple #[pv (0:Fin P) (0:Fin P),fZ]):XB)=(.tuple #[pv (0:Fin P) 0,fZ]):=by
  subst_vars;rfl
 rw[<-d];go_enter func119,ntmps119;refine RG.M.enter [(0,.v (fv x))] 31 kR ?_;intro a0 p;repeat apply XG
 refine p.T [.m 0,.m 1,.x fZ] [(0,ws x),(1,RG.z 8)] [] [ws x,RG.z 8] [1,2,3] ⟨mk 0 42,mk 1 131,st,yEZ⟩ ?_;intro a K H r n;repeat apply XG
 refine n.T [.c gv0,.m 2,.u 2] [(1,RG.z 4)] [(2,2,gl0)] [ws x,RG.z 8,gl0] [1,2,3,4] ⟨cl bM,mk 2 78,RG.pt i79,yEZ⟩ ?_;intro J a2 D o;repeat apply XG
 refine o.D [.x gv0,.x gv0,.x gv0,.x (fv x),.x (fv x),.c (fv c1),.x (fv x),.c (fv c2),.x (fv (7:Fin P)),.c (fv k),.m 3,.u 3] [(10,RG.z 4)] [(3,11,ws k)] [ws x,RG.z 8,gl0,ws k] [2,3,4,5] ⟨ld u79 i79,ld u79 i79,ld u79 i79,ld u85 i85,ld u85 i85,cl ((sN C).e e),ld u85 i85,cl ((sN C).e i),se (Cm C),cl ((Hj C).e g),mk 3 42,RG.pt i85,yEZ⟩ ?_;intro G u z q;repeat apply XG
 refine q.T [.x gv0,.x (fv k),.c (.tuple #[fv (0:Fin P),fZ]),.x (.tuple #[fv (0:Fin P),fZ]),.x (fv (0:Fin P)),.x fZ,.m 4,.u 4,.x fZ] [(6,RG.z 4)] [(4,7,ws (0:Fin P))] [ws x,RG.z 8,gl0,ws k,ws (0:Fin P)] [2,3,7] ⟨ld u79 i79,ld u85 i85,cl (f:=177) (args:=#[gv0,fv k]) (v:=(.tuple #[fv (0:Fin P),fZ])) (Tn C (by subst_vars;exact l)),st,st,st,mk 4 42,RG.pt i85,st,yEZ⟩ ?_;intro F I B m;repeat apply XG
 refine m.U [.x fZ,.x tZ] [2,3,26] ⟨st,st,yEZ⟩ ?_;intro y A j;repeat apply XG
 refine Yy j.ev ?_;repeat apply XG
 refine j.T [.x (pv (0:Fin P) (0:Fin P)),.u 1,.x fZ] [] [(1,1,ws (0:Fin P)++(ws (0:Fin P)))] [ws x,ws (0:Fin P)++(ws (0:Fin P)),gl0,ws k,ws (0:Fin P)] [2,3] ⟨se (iE (P:=P)),RG.pt i109,st,yEZ⟩ ?_;intro E t b;refine Za<|XN (v:=(.tuple #[pv (0:Fin P) (0:Fin P),fZ])) (cU b.st rfl rfl (b.at (s:=(.p 1 0))) (b.at (s:=(.v fZ))) iQ i109) b.sl.defers ?_
 exact⟨_,rfl,b.st.bel.below,rfl⟩
def Rr(C:Fld P)(x y:Fin P):Gives 196 #[(pv x y)] (pv x (0-y)):=by
 intro w;obtain⟨c1,d⟩:∃c,c=(0:Fin P)-y:=⟨_,rfl⟩
 have k:((pv x c1):XB)=(pv x (0-y)):=by
  subst_vars;rfl
 rw[<-k];go_enter func196,ntmps196;refine RG.M.enter [(0,.v (pv x y))] 11 kR ?_;intro a0 f;repeat apply XG
 refine f.T [.m 0,.m 1] [(0,ws x++(ws y)),(1,RG.z 8)] [] [ws x++(ws y),RG.z 8] [1,2] ⟨mk 0 131,mk 1 131,yEZ⟩ ?_;intro m i j g e;repeat apply XG
 refine e.D [.s (.p 0 0),.x (fv x),.c gv0,.x (fv (0:Fin P)),.s (.p 0 4),.x (fv y),.c (fv c1),.x (pv x c1),.u 1] [] [(1,8,ws x++(ws c1))] [ws x++(ws y),ws x++(ws c1)] [2] ⟨st,ld u85 i85,cl bM,se (mA (P:=P)),st,ld u85 i85,cl ((ME C).e d),st,RG.pt i109,yEZ⟩ ?_;intro a2 l b;refine Za<|XN (v:=(pv x c1)) (aH b.st rfl rfl (b.at (s:=(.p 1 0))) iQ i109) b.sl.defers ?_
 exact⟨_,rfl,b.st.bel.below,rfl⟩
def iJ{w W:XA}{k j e a b c d f g i:Nat}(h:Kept w k [⟨e,0,a,b,c,d⟩,⟨k,0,f,g,i,0⟩,⟨j,0,0,0,0,0⟩] W):W.cell? ⟨e,0,none⟩=some (uZ a)/\W.cell? ⟨e,1,none⟩=some (uZ b)/\W.cell? ⟨e,2,none⟩=some (uZ c)/\W.cell? ⟨e,3,none⟩=some (uZ d)/\W.cell? ⟨k,0,none⟩=some (uZ f)/\W.cell? ⟨k,1,none⟩=some (uZ g)/\W.cell? ⟨k,2,none⟩=some (uZ i)/\W.cell? ⟨k,3,none⟩=some (uZ 0)/\Kept w k [⟨e,0,a,b,c,d⟩,⟨k,0,f,g,i,0⟩,⟨j,0,0,0,0,0⟩] W:=⟨h.head.c0,h.head.c1,h.head.c2,h.head.c3,h.tail.head.c0,h.tail.head.c1,h.tail.head.c2,h.tail.head.c3,h⟩
def oU{w W:XA}{k j e a b c d f g i:Nat}(h:W.cell? ⟨e,0,none⟩=some (uZ a)/\W.cell? ⟨e,1,none⟩=some (uZ b)/\W.cell? ⟨e,2,none⟩=some (uZ c)/\W.cell? ⟨e,3,none⟩=some (uZ d)/\W.cell? ⟨k,0,none⟩=some (uZ f)/\W.cell? ⟨k,1,none⟩=some (uZ g)/\W.cell? ⟨k,2,none⟩=some (uZ i)/\W.cell? ⟨k,3,none⟩=some (uZ 0)/\Kept w k [⟨e,0,a,b,c,d⟩,⟨k,0,f,g,i,0⟩,⟨j,0,0,0,0,0⟩] W):Kept w k [⟨e,0,a,b,c,d⟩,⟨k,0,f,g,i,0⟩,⟨j,0,0,0,0,0⟩] W:=h.2.2.2.2.2.2.2.2
def Ct{w W:XA}{k j e a b c d f g i:Nat}{o:Obj}(h:W.cell? ⟨e,0,none⟩=some (uZ a)/\W.cell? ⟨e,1,none⟩=some (uZ b)/\W.cell? ⟨e,2,none⟩=some (uZ c)/\W.cell? ⟨e,3,none⟩=some (uZ d)/\W.cell? ⟨k,0,none⟩=some (uZ f)/\W.cell? ⟨k,1,none⟩=some (uZ g)/\W.cell? ⟨k,2,none⟩=some (uZ i)/\W.cell? ⟨k,3,none⟩=some (uZ 0)/\Kept w k [⟨e,0,a,b,c,d⟩,⟨k,0,f,g,i,0⟩,⟨j,0,0,0,0,0⟩] W):(W.alloc o).cell? ⟨e,0,none⟩=some (uZ a)/\(W.alloc o).cell? ⟨e,1,none⟩=some (uZ b)/\(W.alloc o).cell? ⟨e,2,none⟩=some (uZ c)/\(W.alloc o).cell? ⟨e,3,none⟩=some (uZ d)/\(W.alloc o).cell? ⟨k,0,none⟩=some (uZ f)/\(W.alloc o).cell? ⟨k,1,none⟩=some (uZ g)/\(W.alloc o).cell? ⟨k,2,none⟩=some (uZ i)/\(W.alloc o).cell? ⟨k,3,none⟩=some (uZ 0)/\Kept w k [⟨e,0,a,b,c,d⟩,⟨k,0,f,g,i,0⟩,⟨j,0,0,0,0,0⟩] (W.alloc o):=iJ ((oU h).alloc o)
def Bn{w W:XA}{k j e a b c d f g i:Nat}{o:Obj}(h:W.drew.cell? ⟨e,0,none⟩=some (uZ a)/\W.drew.cell? ⟨e,1,none⟩=some (uZ b)/\W.drew.cell? ⟨e,2,none⟩=some (uZ c)/\W.drew.cell? ⟨e,3,none⟩=some (uZ d)/\W.drew.cell? ⟨k,0,none⟩=some (uZ f)/\W.drew.cell? ⟨k,1,none⟩=some (uZ g)/\W.drew.cell? ⟨k,2,none⟩=some (uZ i)/\W.drew.cell? ⟨k,3,none⟩=some (uZ 0)/\Kept w k [⟨e,0,a,b,c,d⟩,⟨k,0,f,g,i,0⟩,⟨j,0,0,0,0,0⟩] W.drew):(W.alloc o).drew.cell? ⟨e,0,none⟩=some (uZ a)/\(W.alloc o).drew.cell? ⟨e,1,none⟩=some (uZ b)/\(W.alloc o).drew.cell? ⟨e,2,none⟩=some (uZ c)/\(W.alloc o).drew.cell? ⟨e,3,none⟩=some (uZ d)/\(W.alloc o).drew.cell? ⟨k,0,none⟩=some (uZ f)/\(W.alloc o).drew.cell? ⟨k,1,none⟩=some (uZ g)/\(W.alloc o).drew.cell? ⟨k,2,none⟩=some (uZ i)/\(W.alloc o).drew.cell? ⟨k,3,none⟩=some (uZ 0)/\Kept w k [⟨e,0,a,b,c,d⟩,⟨k,0,f,g,i,0⟩,⟨j,0,0,0,0,0⟩] (W.alloc o).drew:=iJ (((oU h).undrew).alloc o).drew
def MD(pv:XB)(p:Option Y0)(n cap:Nat)(w:XA)(k d c:Nat)(b:pv=.agg #[uZ k,uZ d,uZ c,uZ 0])(f:n≠32):
 cZ 29 #[pv,.slice p n cap] w (rZ w λe w'=>e=.tuple #[.agg #[uZ 0,uZ 0,uZ 0,uZ 0],fZ]):=by
 subst b;go_enter func29,ntmps29;go_wp2;refine XN (v:=?v) ?hr rfl ?hR
 case hr=>simp[results,Tryz.results29,go_sem];rfl
 exact⟨_,rfl,below2 _ _ _,rfl⟩
def zZ(m l j P g o cap:Nat)(n:Bs)(hG:Gap m l j P)(w:XA)(R:n.size=32)(hc:32<=cap)(S:g<w.heap.size)(X:Holds encB w g o n):
 YN prog 29 #[.agg #[.int .u64 m,.int .u64 l,.int .u64 j,.int .u64 0],.slice (some ⟨g,o,none⟩) 32 cap] w
  (Ret λe w'=>Below w.heap.size w w'/\((beV n.toList<P/\∃v,e=.tuple #[v,.bool true]/\Four v (beV n.toList))\/(P<=beV n.toList/\e=.tuple #[.agg #[.int .u64 0,.int .u64 0,.int .u64 0,.int .u64 0],.bool false]))):=by
 have D:Hid (Gap m l j P):=hG;have I:Hid (Holds encB w g o n):=X;have HS:Hid (n.size=32):=R;clear hG X R;go_enter func29,ntmps29;go_wp2_with fail
 have PR:=(At4.made w 78 m l j 0 rfl).alloc (.cells #[.int .u64 0,.int .u64 0,.int .u64 0,.int .u64 0] 42);have Y:=At4.made (w.alloc (.cells #[.int .u64 m,.int .u64 l,.int .u64 j,.int .u64 0] 78)) 42 0 0 0 0 (XP _ _);have u:=((Kept.mk1 (below2 w (.cells #[.int .u64 m,.int .u64 l,.int .u64 j,.int .u64 0] 78) (.cells #[.int .u64 0,.int .u64 0,.int .u64 0,.int .u64 0] 42)) (below2 w (.cells #[.int .u64 m,.int .u64 l,.int .u64 j,.int .u64 0] 78) (.cells #[.int .u64 0,.int .u64 0,.int .u64 0,.int .u64 0] 42)).size).cons Y.blk).cons PR.blk;have r:=Holds.below I (below2 w (.cells #[.int .u64 m,.int .u64 l,.int .u64 j,.int .u64 0] 78) (.cells #[.int .u64 0,.int .u64 0,.int .u64 0,.int .u64 0] 42)) S;clear PR Y;generalize yAp _ _=W0 at u r⊢;apply(kT (some ⟨g,o,none⟩) g o 32 cap n _ (XD 32) hc HS (X7 ⟨rfl,r⟩)).mono;rintro e M ⟨v,rfl,i,N⟩;obtain⟨a,b,c,d,rfl,ha,hb,O,hd,J⟩:=id N;have K:Hid (Four _ _):=N;have Q:=u.call i;clear J N i u r;go_wp2_with fail
 have f:=(Q.alloc (.cells #[.int .u64 a,.int .u64 b,.int .u64 c,.int .u64 d] 42)).cons (At4.made M 42 a b c d rfl).blk;have z:M.heap.size≠w.heap.size:=ZN Q.head.lt;clear Q;generalize yAp _ _=W1 at f⊢;generalize M.heap.size=y at f z⊢;generalize H:w.heap.size+1=C at f⊢;have L:Hid (w.heap.size<=C):=by unfold Hid;omega
 generalize U:w.heap.size=q at f L S z⊢;have W:Hid (w.heap.size=q):=U;clear U H
 go_cut [8] (λs8 wx=>∃k:Nat,s8=.int .u64 k/\k<=1/\Hid (∃t,t<top/\t+top*k=beV n.toList+val m l j 0)/\Kept w q [⟨y,0,a,b,c,d⟩,⟨q,0,m,l,j,0⟩,⟨C,0,0,0,0,0⟩] wx)
 case first =>
  go_region_held3 (λw'=>w'.cell? ⟨y,0,none⟩=some (.int .u64 a)/\w'.cell? ⟨y,1,none⟩=some (.int .u64 b)/\w'.cell? ⟨y,2,none⟩=some (.int .u64 c)/\w'.cell? ⟨y,3,none⟩=some (.int .u64 d)/\w'.cell? ⟨q,0,none⟩=some (.int .u64 m)/\w'.cell? ⟨q,1,none⟩=some (.int .u64 l)/\w'.cell? ⟨q,2,none⟩=some (.int .u64 j)/\w'.cell? ⟨q,3,none⟩=some (.int .u64 0)/\Kept w q [⟨y,0,a,b,c,d⟩,⟨q,0,m,l,j,0⟩,⟨C,0,0,0,0,0⟩] w') (first|(with_reducible exact iJ f)|(with_reducible exact iJ f.drew)|(with_reducible exact Bn (by assumption))|(with_reducible exact Ct (by assumption))|(with_reducible exact iJ (f.alloc _))|(with_reducible exact iJ (f.set4' F (λx hx=>ZN (A x hx)) _ _ _ _))|(with_reducible exact iJ (f.alloc _).drew)|(with_reducible exact iJ (f.set4' F (λx hx=>ZN (A x hx)) _ _ _ _).drew)|fail) (first|(go_at_call 55;apply(jV K).mono;rintro e w2 ⟨v,rfl,i,rfl⟩;(try(with_reducible have B:=T.call i;clear T;have T:=B;clear B));(try(first|(with_reducible have T:=(At4.made _ 76 0 0 0 0 rfl).call i)|(with_reducible have T:=(At4.made _ 76 0 0 0 0 rfl).drew.call i));have A:=f.lts;have F:=f.le);have p:=Kept.call (oU (by assumption)) i;clear f;have f:=p;clear p i)|(go_at_call 54;apply(rL _ _ _ _ K (Four.mk D.h0 D.h1 D.h2 dC rfl) _).mono;rintro e w2 ⟨v,rfl,i,v2,t,k,rfl,s,E,V⟩;obtain⟨a',b',c',d',rfl,h3,h4,O,hi,J⟩:=id s;have HT:Hid (t<top/\t+top*k=beV n.toList+val m l j 0):=⟨s.lt,V⟩;clear J V s;(try(with_reducible have B:=T.call i;clear T;have T:=B;clear B));(try(first|(with_reducible have T:=(At4.made _ 76 0 0 0 0 rfl).call i)|(with_reducible have T:=(At4.made _ 76 0 0 0 0 rfl).drew.call i));have A:=f.lts;have F:=f.le);have p:=Kept.call (oU (by assumption)) i;clear f;have f:=p;clear p i;(try(obtain⟨h5,h6,hj,Z,tf⟩:=id T;have zt:=T.lt))))
  all_goals (try go_wp2)
  all_goals (have G:Hid (∃t,t<top/\t+top*k=beV n.toList+val m l j 0):=⟨t,HT⟩)
  all_goals (go_meet;first|(with_reducible exact⟨k,rfl,E,G,f.alloc _⟩)|(with_reducible exact⟨k,rfl,E,G,(f.alloc _).drew⟩)|(with_reducible exact⟨k,rfl,E,G,f.set4' F (λx hx=>ZN (A x hx)) _ _ _ _⟩)|(with_reducible exact⟨k,rfl,E,G,(f.set4' F (λx hx=>ZN (A x hx)) _ _ _ _).drew⟩)|fail)
 case rest =>
  clear f;obtain⟨k,rfl,E,V,f⟩:=hcut;have F:k=0\/k=1:=oM;rcases F with rfl|rfl
  .obtain⟨h9,Z,h7,h8,xf⟩:=f.head.at4;obtain⟨s,A,B,G,rf⟩:=f.tail.tail.head.at4;have z1:=f.tail.tail.head.lt;go_wp2;have p:=f.tail.tail.head.at4.self4 a b c d;unfold set4 at p;refine XN (v:=?v0) ?hr0 rfl ?hR0
   case hr0=>simp[results,Tryz.results29,go_sem,p.c0,p.c1,p.c2,p.c3];rfl
   refine⟨_,rfl,?_,Ye ⟨?_,_,rfl,K⟩⟩
   .rw[W.out];exact aM f.bl L
   .obtain⟨t,H,h2⟩:=V;have:=D.hP;omega
  .obtain⟨s,A,B,G,rf⟩:=f.tail.tail.head.at4;have z1:=f.tail.tail.head.lt;go_wp2;have p:At4 (set4 wc C (.int .u64 0) (.int .u64 0) (.int .u64 0) (.int .u64 0)) C 0 0 0 0:=f.tail.tail.head.at4.self4 0 0 0 0;unfold set4 at p;refine XN (v:=?v1) ?hr1 rfl ?hR1
   case hr1=>simp[results,Tryz.results29,go_sem,p.c0,p.c1,p.c2,p.c3];rfl
   refine⟨_,rfl,?_,X7 ⟨?_,rfl⟩⟩
   .rw[W.out];exact aM f.bl L
   .obtain⟨t,H,h2⟩:=V;have:=D.hP;omega
def Arg(w:XA)(v:XB)(k:Bs):Prop:=∃(p:Option Y0) (n cap:Nat),v=.slice p n cap/\k.size=n/\(n=32->∃g o,p=some ⟨g,o,none⟩/\32<=cap/\g<w.heap.size/\hZ w g o k)
def Arg.below{w k:XA}{v:XB}{b:Bs}(h:Arg w v b)(d:kZ w k):Arg k v b:=by
 obtain⟨p,n,cap,rfl,e,i⟩:=h;refine⟨p,n,cap,rfl,e,λj=>?_⟩;obtain⟨g,o,m,f,c,l⟩:=i j;exact⟨g,o,m,f,XC c d.size,Holds.below l d c⟩
def Args(w:XA)(q:Option Y0)(n:Nat)(L:Nat->Bs):Prop:=0<n->∃k,q=some (aZ k)/\k<w.heap.size/\∀j,j<n->∃v,w.cell? ⟨k,j,none⟩=some v/\Arg w v (L j)
section
def u131:yZ 50:=yQ
def i131:gZ 50 33:=gQ
def u5:wZ 5:=wQ
def QD:prog.underlying 50=some (.array 33 5):=kR
def VW:prog.underlying 5=some (.int .u8):=kR
def cells5:prog.cellsOf 5=1:=kR
def TU{g o cap:Nat}(k:33<=cap)(w:XA):(Instr.sliceAt 23 (qZ g o 33 cap) (some (iZ 1)) none none).run prog w=.ok (qZ g (o+1) 32 (cap-1)) w:=by
 go_simp;omega
def Ql{g o cap:Nat}(w:XA):(Instr.arrayAt 50 (qZ g o 33 cap)).run prog w=.ok (oZ g o) w:=kR
def Ff{g o n cap:Nat}{w:XA}(k:0<n):(Yv 23 (qZ g o n cap) (iZ 0)).run prog w=.ok (oZ g o) w:=by
 go_simp
def PG{v:XB}(xs:Array XB)(i:Nat)(h:xs[i]? = some v)(w:XA):(part 5 xs i).run prog w=.ok v w:=by
 go_simp
def eqI{a b:Nat->Int}{D:Nat}(xs ys:Array XB)(w:XA):∀(k:List Nat),(∀i∈k,xs[i]? = some (.int .u8 (a i)))->(∀i∈k,ys[i]? = some (.int .u8 (b i))) ->
 (yDU (D+1) 5 1 xs ys k).run prog w=.ok (decide (∀i∈k,a i=b i)) w
 | [],_,_=>by
  rw[yDU];simp
 | i :: k,hx,hy=>by
  have f:=eqI xs ys (a:=a) (b:=b) (D:=D) w k (λj c=>hx j (Yo _ c)) (λj c=>hy j (Yo _ c));have p1:=PG xs (i*1) (by rw[Z5];exact hx i YH) w;have p2:=PG ys (i*1) (by rw[Z5];exact hy i YH) w;have d:=run_equalIn_int (P:=prog) w D 5 .u8 .u8 (a i) (b i) VW;rw[yDU];simp only[Sem.run_bind,p1,p2,d,Yz];by_cases h:a i=b i
  .simp only[h,beq_self_eq_true,Bool.not_true,Bool.false_eq_true,if_false,f,yDg,true_and]
  .have e:(a i == b i)=false:=by simpa using h
   simp only[e,Bool.not_false,if_true,Sem.run_pure,yDg,h,false_and,decide_false]
def aA(k:Bs):List XB:=k.toList.map encB
def z33:List XB:=YM 33 (.int .u8 0)
def sM{k:Bs}{i:Nat}(h:i<k.size):(aA k)[i]? = some (.int .u8 (ub k[i]!)):=by
 unfold aA;rw[YB,YE,X8 h,getElem!_pos k i h];rfl
def eqz{k:Bs}(h:k.size=33)(w:XA):(binOp .eql 50 (.agg (aA k).toArray) (.agg z33.toArray)).run prog w=.ok (.bool (decide (∀i∈YA 33,ub k[i]! = 0))) w:=by
 have c:(prog.info? 5).isSome=true:=kR;obtain⟨d,b⟩:=YQ.1 c;rw[run_eql_struct,run_equalIn_array w 9999 _ _ QD b,cells5,
  eqI _ _ w (YA 33) (λi c=>by
   rw[Yj];exact sM (by rw[h];exact Y4.1 c)) (λi c=>by
   rw[Yj];unfold z33;rw[List.getElem?_replicate,yEX (Y4.1 c)])]
 rfl
@[reducible] def uI (bs:Bs):Prop:=∀i∈YA 33,ub bs[i]! = 0
def U1{k:Bs}(h:k.size=33)(b:uI k)(w:XA):(binOp .eql 50 (.agg (aA k).toArray) (.agg z33.toArray)).run prog w=.ok tZ w:=by rw[eqz h,decide_eq_true (show ∀i∈YA 33,ub k[i]! = 0 from b)]
def U2{k:Bs}(h:k.size=33)(b:¬uI k)(w:XA):(binOp .eql 50 (.agg (aA k).toArray) (.agg z33.toArray)).run prog w=.ok fZ w:=by rw[eqz h,decide_eq_false (show ¬ ∀i∈YA 33,ub k[i]! = 0 from b)]
def aB{k:Bs}(h:k.size=33):(aA k).length=33:=by unfold aA;rw[XZ,XU,h]
def E8{k:Bs}{w:XA}{g o:Nat}(c:hZ w g o k):w.rangeAt g o (aA k):=λj v hv=>by
 have b:j<k.size:=by
  have:=(XM.1 hv).1;unfold aA at this;rwa[XZ,XU]at this
 rw[sM b]at hv;rw[(c j b).1];exact hv
def vP(k:Bs):Bs:=k.extract 1 33
def oO{k:Bs}(h:k.size=33):(vP k).size=32:=by unfold vP;rw[Z4,h];rfl
theorem tl33_holds{k:Bs}{w:XA}{g o:Nat}(h:k.size=33)(c:hZ w g o k):hZ w g (o+1) (vP k):=
 Holds.part c (by rw[oO h,h];decide) (λj b=>by
  rw[oO h]at b;unfold vP;rw[getElem!_pos _ j (by rw[Z4,h];omega),getElem!_pos _ (1+j) (by rw[h];omega),Array.getElem_extract])
variable {P:Nat}[NeZero P]
def MB(C:Fld P){g o cap:Nat}{k:Bs}(c:k.size=32)(l:32<=cap){x:Fin P}(hx:beV k.toList=x.val){w:XA}(j:g<w.heap.size)(f:hZ w g o k):
 cZ 29 #[gv0,qZ g o 32 cap] w (rZ w λe w'=>e=.tuple #[fv x,tZ]):=
 (zZ 4294968273 0 0 P g o cap k C.gap w c l j f).mono (by
  rintro e w' ⟨v,rfl,i,⟨d,m,rfl,b⟩|⟨d,rfl⟩⟩
  .refine⟨_,rfl,i,?_⟩;rw[hx]at b;rw[b.nv]
  .have:=x.isLt;omega)
def MC(C:Fld P){g o cap:Nat}{k:Bs}(c:k.size=32)(j:32<=cap)(hx:¬beV k.toList<P){w:XA}(i:g<w.heap.size)(d:hZ w g o k):
 cZ 29 #[gv0,qZ g o 32 cap] w (rZ w λe w'=>e=.tuple #[fv (0:Fin P),fZ]):=
 (zZ 4294968273 0 0 P g o cap k C.gap w c j i d).mono (by
  rintro e w' ⟨v,rfl,f,⟨b,m,rfl,l⟩|⟨b,rfl⟩⟩
  .exact absurd b hx
  .refine⟨_,rfl,f,?_⟩;rw[<-mA])
def rdx(P:Nat)[NeZero P](k:Bs):Fin P:=ZT P (beV (vP k).toList)
def rd(P:Nat)[NeZero P](k:Bs):Option (Fin P × Fin P):=
 if k.size=33 then
  if uI k then some (0,0) else
  if ub k[0]! = 2\/ub k[0]! = 3 then
   if beV (vP k).toList<P then
    (rt (rdx P k*rdx P k*rdx P k+7)).map (λy=>(rdx P k,if ub k[0]! = 3 then 0-y else y))
   else none
  else none
 else none
def rdV:Option (Fin P × Fin P)->XB
 | none=>.tuple #[pv (0:Fin P) 0,fZ]
 | some p=>.tuple #[pv p.1 p.2,tZ]
end
def Rf(C:Fld P)(q:Option Y0)(n cap:Nat)(x:Fin P)(w:XA)(u:¬n=33):cZ 156 #[(.slice q n cap)] w (rZ w λe w'=>e=(.tuple #[pv (0:Fin P) 0,fZ])):=by
 have b:∀w,(binOp .neq 3 (iZ n) (iZ 33)).run prog w=.ok tZ w:=λw=>by
  have h:¬(n:Int)=33:=oM;go_simp
 go_enter func156,ntmps156;refine QC (v0:=(.slice q n cap)) (n:=54) kR kR kR ?_;intro a0 d g;have c:=RG.St.begin w;have j:RG.M w w.heap.size [] 54 [] [] [(0,.v (.slice q n cap))] a0 _:=⟨c,d,⟨g,yEZ⟩⟩
 repeat apply XG
 refine j.T [.m 0,.x fZ] [(0,RG.z 8)] [] [RG.z 8] [0,2,3] ⟨mk 0 131,st,yEZ⟩ ?_;intro p t l i;repeat apply XG
 refine i.U [.x (.slice q n cap),.x (iZ n),.x tZ] [2,3,9] ⟨st,oI rfl (t:=7) (.v (.slice q n cap)) (iZ n) rfl sx (λa w=>kR) (λμ w=>kR),aN rfl .neq (T:=3) 3 (t1:=8) (v1:=(iZ n)) (v2:=(iZ 33)) (v:=tZ) rfl rfl sx (λw=>kR) b,yEZ⟩ ?_;intro a2 r f;repeat apply XG
 refine Yy f.ev ?_;repeat apply XG
 refine f.T [.x (pv (0:Fin P) (0:Fin P)),.u 0,.x fZ] [] [(0,1,ws (0:Fin P)++(ws (0:Fin P)))] [ws (0:Fin P)++(ws (0:Fin P))] [2,3] ⟨se (iE (P:=P)),RG.pt i109,st,yEZ⟩ ?_;intro m o k;refine Za<|XN (v:=(.tuple #[pv (0:Fin P) (0:Fin P),fZ])) (cU k.st (t:=2) (u:=3) (T:=131) rfl (b:=0) rfl (k.at (s:=(.p 0 0))) (k.at (s:=(.v fZ))) iQ i109) k.sl.defers ?_
 exact⟨_,rfl,k.st.bel.below,rfl⟩
abbrev v33(g o cap:Nat):XB:=qZ g o 33 cap
def Wv(C:Fld P)(g o cap:Nat)(k:Bs)(w:XA)(l:k.size=33)(Y:33<=cap)(d:g<w.heap.size)(H:hZ w g o k):cZ 156 #[v33 g o cap] w (rZ w λe w'=>e=rdV (rd P k)):=by
 have E:=E8 H;have b:w.cell? ⟨g,o,none⟩=some (.int .u8 (ub k[0]!)):=by
  have:=(H 0 (by rw[l];decide)).1;rw[yAl]at this;exact this
 go_enter func156,ntmps156;refine QC (v0:=(v33 g o cap)) (n:=54) kR kR kR ?_;intro a0 N f0;have L:=RG.St.begin w;have M0:RG.M w w.heap.size [] 54 [] [] [(0,.v (v33 g o cap))] a0 _:=⟨L,N,⟨f0,yEZ⟩⟩
 repeat apply XG
 refine M0.T [.m 0,.x fZ] [(0,RG.z 8)] [] [RG.z 8] [0,2,3] ⟨mk 0 131,st,yEZ⟩ ?_;intro j1 a1 w1 M1;repeat apply XG
 refine M1.U [.x (v33 g o cap),.x (iZ 33),.x fZ] [0,2,3,9] ⟨st,oI rfl (t:=7) (.v (v33 g o cap)) (iZ 33) rfl sx (λa w=>kR) (λμ w=>kR),st,yEZ⟩ ?_;intro a2 w2 K;repeat apply XG
 refine Yb K.ev ?_;apply YU;repeat apply XG
 unfold rd;rw[yEX l];by_cases I:uI k
 .rw[yEX I];refine K.U [.x (v33 g o cap),.x (oZ g o),.x (.agg (aA k).toArray),.x (.agg z33.toArray),.x tZ] [2,3,15] ⟨st,De rfl (T:=50) (t:=11) (v:=(v33 g o cap)) (b:=(oZ g o)) rfl rfl sx (Ql (g:=g) (o:=o) (cap:=cap)),eH rfl (k:=g) (off:=o) d Yf (T:=50) (t:=12) rfl (cs:=(aA k)) rfl sx E u131 (by rw[aB l];exact i131),st,aX rfl .eql (T:=50) 50 (t1:=13) (t2:=14) (v1:=(.agg (aA k).toArray)) (v2:=(.agg z33.toArray)) (v:=tZ) rfl rfl sx sx (λw=>kR) (U1 l I),yEZ⟩ ?_;intro a3 w3 A;repeat apply XG
  refine Yy A.ev ?_;repeat apply XG
  refine A.T [.x (pv (0:Fin P) (0:Fin P)),.u 0,.x tZ] [] [(0,1,ws (0:Fin P)++(ws (0:Fin P)))] [ws (0:Fin P)++(ws (0:Fin P))] [2,3] ⟨se (iE (P:=P)),RG.pt i109,st,yEZ⟩ ?_;intro Z W f;refine Za<|XN (v:=(.tuple #[pv (0:Fin P) (0:Fin P),tZ])) (cU f.st (t:=2) (u:=3) (T:=131) rfl (b:=0) rfl (f.at (s:=(.p 0 0))) (f.at (s:=(.v tZ))) iQ i109) f.sl.defers ?_
  exact⟨_,rfl,f.st.bel.below,rfl⟩
 rw[yEY I];refine K.U [.x (v33 g o cap),.x (oZ g o),.x (.agg (aA k).toArray),.x (.agg z33.toArray),.x fZ] [0,2,3,15] ⟨st,De rfl (T:=50) (t:=11) (v:=(v33 g o cap)) (b:=(oZ g o)) rfl rfl sx (Ql (g:=g) (o:=o) (cap:=cap)),eH rfl (k:=g) (off:=o) d Yf (T:=50) (t:=12) rfl (cs:=(aA k)) rfl sx E u131 (by rw[aB l];exact i131),st,aX rfl .eql (T:=50) 50 (t1:=13) (t2:=14) (v1:=(.agg (aA k).toArray)) (v2:=(.agg z33.toArray)) (v:=fZ) rfl rfl sx sx (λw=>kR) (U2 l I),yEZ⟩ ?_;intro a3 w3 A;repeat apply XG
 refine Yb A.ev ?_;apply YU;repeat apply XG
 by_cases i:ub k[0]! = 2\/ub k[0]! = 3
 rotate_left
 .rw[yEY i];generalize ub k[0]! = m at b i;have X:¬m=2:=λh=>i (.inl h)
  have J:¬m=3:=λh=>i (.inr h)
  have c:∀w,(binOp .neq 5 (.int .u8 m) (.int .u8 2)).run prog w=.ok tZ w:=λw=>by
   go_simp
  have j:∀w,(binOp .neq 5 (.int .u8 m) (.int .u8 3)).run prog w=.ok tZ w:=λw=>by
   go_simp
  refine A.U [.x (v33 g o cap),.x (oZ g o),.x (.int .u8 m),.x tZ,.x tZ,.x (v33 g o cap),.x (oZ g o),.x (.int .u8 m),.x tZ,.x tZ] [2,3,26] ⟨st,eO rfl 23 (t:=17) (iZ 0) rfl (.v (v33 g o cap)) sx (λμ w=>Ff (g:=g) (o:=o) (n:=33) (cap:=cap) dC (w:=w)),eI rfl (k:=g) (off:=o) d Yf (T:=5) (t:=18) rfl (v:=(.int .u8 m)) rfl sx b u5,aN rfl .neq (T:=5) 5 (t1:=19) (v1:=(.int .u8 m)) (v2:=(.int .u8 2)) (v:=tZ) rfl rfl sx (λw=>kR) c,st,st,eO rfl 23 (t:=22) (iZ 0) rfl (.v (v33 g o cap)) sx (λμ w=>Ff (g:=g) (o:=o) (n:=33) (cap:=cap) dC (w:=w)),eI rfl (k:=g) (off:=o) d Yf (T:=5) (t:=23) rfl (v:=(.int .u8 m)) rfl sx b u5,aN rfl .neq (T:=5) 5 (t1:=24) (v1:=(.int .u8 m)) (v2:=(.int .u8 3)) (v:=tZ) rfl rfl sx (λw=>kR) j,st,yEZ⟩ ?_;intro Z W f;repeat apply XG
  refine Yy f.ev ?_;repeat apply XG
  refine f.T [.x (pv (0:Fin P) (0:Fin P)),.u 0,.x fZ] [] [(0,1,ws (0:Fin P)++(ws (0:Fin P)))] [ws (0:Fin P)++(ws (0:Fin P))] [2,3] ⟨se (iE (P:=P)),RG.pt i109,st,yEZ⟩ ?_;intro S V q;refine Za<|XN (v:=(.tuple #[pv (0:Fin P) (0:Fin P),fZ])) (cU q.st (t:=2) (u:=3) (T:=131) rfl (b:=0) rfl (q.at (s:=(.p 0 0))) (q.at (s:=(.v fZ))) iQ i109) q.sl.defers ?_
  exact⟨_,rfl,q.st.bel.below,rfl⟩
 rw[yEX i];rcases i with i|i
 case' inl=>refine A.u [.x 17 [] (v33 g o cap),.x 18 [(17,0)] (oZ g o),.x 19 [(18,1)] (.int .u8 2),.x 20 [(19,2)] fZ,.x 21 [(20,3)] fZ,⟨some 22,[],.v Zs,.pass⟩,⟨some 23,[],.v Zs,.pass⟩,⟨some 24,[],.v Zs,.pass⟩,⟨some 25,[],.v Zs,.pass⟩,.x 26 [(21,4),(25,8)] fZ] [(0,.v (v33 g o cap)),(2,.p 0 0),(3,.v fZ),(26,.v fZ)] ⟨st,eO rfl 23 (t:=17) (iZ 0) rfl (.v (v33 g o cap)) sx (λμ w=>Ff (g:=g) (o:=o) (n:=33) (cap:=cap) dC (w:=w)),eI rfl (k:=g) (off:=o) d Yf (T:=5) (t:=18) rfl (v:=(.int .u8 2)) rfl sx (b.trans (by rw[i])) u5,st,st,dA rfl rfl,dA rfl rfl,dA rfl rfl,dA rfl rfl,st,yEZ⟩ ?_
 case' inr=>refine A.U [.x (v33 g o cap),.x (oZ g o),.x (.int .u8 3),.x tZ,.x tZ,.x (v33 g o cap),.x (oZ g o),.x (.int .u8 3),.x fZ,.x fZ] [0,2,3,26] ⟨st,eO rfl 23 (t:=17) (iZ 0) rfl (.v (v33 g o cap)) sx (λμ w=>Ff (g:=g) (o:=o) (n:=33) (cap:=cap) dC (w:=w)),eI rfl (k:=g) (off:=o) d Yf (T:=5) (t:=18) rfl (v:=(.int .u8 3)) rfl sx (b.trans (by rw[i])) u5,st,st,st,eO rfl 23 (t:=22) (iZ 0) rfl (.v (v33 g o cap)) sx (λμ w=>Ff (g:=g) (o:=o) (n:=33) (cap:=cap) dC (w:=w)),eI rfl (k:=g) (off:=o) d Yf (T:=5) (t:=23) rfl (v:=(.int .u8 3)) rfl sx (b.trans (by rw[i])) u5,st,st,yEZ⟩ ?_
 all_goals
  intro Z W f;repeat apply XG
  refine Yb f.ev ?_;apply YU;repeat apply XG
  by_cases hx:beV (vP k).toList<P
  rotate_left
  .rw[yEY hx];have z:∀w',BelX w.heap.size [] w w'->cZ 29 #[gv0,qZ g (o+1) 32 (cap-1)] w' (Ret λe B=>kZ w' B/\e=.tuple #[fv (0:Fin P),fZ]):=λw' F=>MC C (oO l) oM hx (XC d F.size) (Holds.below (tl33_holds l H) F.below d)
   refine f.D [.c gv0,.x (v33 g o cap),.x (qZ g (o+1) 32 (cap-1)),.c (.tuple #[fv (0:Fin P),fZ]),.x (.tuple #[fv (0:Fin P),fZ]),.x (fv (0:Fin P)),.x fZ,.m 1,.u 1,.x fZ] [(7,RG.z 4)] [(1,8,ws (0:Fin P))] [RG.z 8,ws (0:Fin P)] [2,3,5] ⟨cl bM,st,uY rfl (T:=23) (t:=30) (b:=(iZ 1)) (v:=(v33 g o cap)) (c:=(qZ g (o+1) 32 (cap-1))) rfl rfl sx (TU (g:=g) (o:=o) (cap:=cap) Y),vE rfl (f:=29) (t1:=29) (t2:=31) (v1:=gv0) (v2:=(qZ g (o+1) 32 (cap-1))) (v:=(.tuple #[fv (0:Fin P),fZ])) rfl (λa w=>kR) sx sx z,st,st,st,mk 1 42,RG.pt i85,st,yEZ⟩ ?_;intro j5 S V q;repeat apply XG
   refine q.U [.x fZ,.x tZ] [2,3,36] ⟨st,st,yEZ⟩ ?_;intro a6 w6 D;repeat apply XG
   refine Yy D.ev ?_;repeat apply XG
   refine D.T [.x (pv (0:Fin P) (0:Fin P)),.u 0,.x fZ] [] [(0,1,ws (0:Fin P)++(ws (0:Fin P)))] [ws (0:Fin P)++(ws (0:Fin P)),ws (0:Fin P)] [2,3] ⟨se (iE (P:=P)),RG.pt i109,st,yEZ⟩ ?_;intro a7 T p;refine Za<|XN (v:=(.tuple #[pv (0:Fin P) (0:Fin P),fZ])) (cU p.st (t:=2) (u:=3) (T:=131) rfl (b:=0) rfl (p.at (s:=(.p 0 0))) (p.at (s:=(.v fZ))) iQ i109) p.sl.defers ?_
   exact⟨_,rfl,p.st.bel.below,rfl⟩
  rw[yEX hx];have G:beV (vP k).toList=(rdx P k).val:=(X6 hx).symm;generalize rdx P k=x at G;have z:∀w',BelX w.heap.size [] w w'->cZ 29 #[gv0,qZ g (o+1) 32 (cap-1)] w' (Ret λe B=>kZ w' B/\e=.tuple #[fv x,tZ]):=λw' F=>MB C (oO l) oM G (XC d F.size) (Holds.below (tl33_holds l H) F.below d)
  refine f.D [.c gv0,.x (v33 g o cap),.x (qZ g (o+1) 32 (cap-1)),.c (.tuple #[fv x,tZ]),.x (.tuple #[fv x,tZ]),.x (fv x),.x tZ,.m 1,.u 1,.x tZ] [(7,RG.z 4)] [(1,8,ws x)] [RG.z 8,ws x] [0,2,3,4,5] ⟨cl bM,st,uY rfl (T:=23) (t:=30) (b:=(iZ 1)) (v:=(v33 g o cap)) (c:=(qZ g (o+1) 32 (cap-1))) rfl rfl sx (TU (g:=g) (o:=o) (cap:=cap) Y),vE rfl (f:=29) (t1:=29) (t2:=31) (v1:=gv0) (v2:=(qZ g (o+1) 32 (cap-1))) (v:=(.tuple #[fv x,tZ])) rfl (λa w=>kR) sx sx z,st,st,st,mk 1 42,RG.pt i85,st,yEZ⟩ ?_;intro j5 S V q;repeat apply XG
  refine q.U [.x tZ,.x fZ] [0,2,3,4,5,36] ⟨st,st,yEZ⟩ ?_;intro a6 w6 D;repeat apply XG
  refine Yb D.ev ?_;apply YU;repeat apply XG
  cases R:rt (x*x*x+7) with
  | none =>
   refine D.T [.x (fv x),.c (.tuple #[pv (0:Fin P) (0:Fin P),fZ]),.x (.tuple #[pv (0:Fin P) (0:Fin P),fZ]),.x (pv (0:Fin P) (0:Fin P)),.x fZ,.m 2,.u 2,.x fZ] [(5,RG.z 8)] [(2,6,ws (0:Fin P)++(ws (0:Fin P)))] [RG.z 8,ws x,ws (0:Fin P)++(ws (0:Fin P))] [2,3,5,6] ⟨ld u85 i85,zM rfl (f:=119) (t1:=39) (v1:=(fv x)) (v:=(.tuple #[pv (0:Fin P) (0:Fin P),fZ])) rfl (λa w=>kR) sx (A3 C x R),st,st,st,mk 2 131,RG.pt i109,st,yEZ⟩ ?_;intro j7 a7 T p;repeat apply XG
   refine p.u [.x 43 [] fZ,.x 44 [(43,0)] fZ,⟨some 45,[],.v Zs,.pass⟩,⟨some 46,[],.v Zs,.pass⟩,⟨some 47,[],.v Zs,.pass⟩,⟨some 48,[],.v Zs,.pass⟩,.x 49 [(44,1),(48,5)] fZ] [(2,.p 0 0),(3,.v fZ),(5,.v fZ),(6,.p 2 0),(49,.v fZ)] ⟨st,st,dA rfl rfl,dA rfl rfl,dA rfl rfl,dA rfl rfl,st,yEZ⟩ ?_;intro Q w8 u;repeat apply XG
   refine Yb u.ev ?_;apply YU;repeat apply XG
   refine u.T [.x (pv (0:Fin P) (0:Fin P)),.x fZ,.u 0,.x fZ] [] [(0,2,ws (0:Fin P)++(ws (0:Fin P)))] [ws (0:Fin P)++(ws (0:Fin P)),ws x,ws (0:Fin P)++(ws (0:Fin P))] [2,3] ⟨ld iQ i109,st,RG.pt i109,st,yEZ⟩ ?_;intro U O c;refine Za<|XN (v:=(.tuple #[pv (0:Fin P) (0:Fin P),fZ])) (cU c.st (t:=2) (u:=3) (T:=131) rfl (b:=0) rfl (c.at (s:=(.p 0 0))) (c.at (s:=(.v fZ))) iQ i109) c.sl.defers ?_
   exact⟨_,rfl,c.st.bel.below,rfl⟩
  | some y =>
   refine D.T [.x (fv x),.c (.tuple #[pv x y,tZ]),.x (.tuple #[pv x y,tZ]),.x (pv x y),.x tZ,.m 2,.u 2,.x tZ] [(5,RG.z 8)] [(2,6,ws x++(ws y))] [RG.z 8,ws x,ws x++(ws y)] [0,2,3,5,6] ⟨ld u85 i85,zM rfl (f:=119) (t1:=39) (v1:=(fv x)) (v:=(.tuple #[pv x y,tZ])) rfl (λa w=>kR) sx (A0 C x y R),st,st,st,mk 2 131,RG.pt i109,st,yEZ⟩ ?_;intro j7 a7 T p;repeat apply XG
   rw[yAq];by_cases J:ub k[0]! = 3
   .rw[yEX J];generalize M:0-y=t;have r:Gives 196 #[pv x y] (pv x t):=M ▸ Rr C x y;refine p.U [.x tZ,.x tZ,.x (v33 g o cap),.x (oZ g o),.x (.int .u8 3),.x tZ,.x tZ] [2,3,5,6,49] ⟨st,st,st,eO rfl 23 (t:=45) (iZ 0) rfl (.v (v33 g o cap)) sx (λμ w=>Ff (g:=g) (o:=o) (n:=33) (cap:=cap) dC (w:=w)),eI rfl (k:=g) (off:=o) d Yf (T:=5) (t:=46) rfl (v:=(.int .u8 3)) rfl sx (b.trans (by rw[J])) u5,st,st,yEZ⟩ ?_;intro Q w8 u;repeat apply XG
    refine Yy u.ev ?_;repeat apply XG
    refine u.T [.x (pv x y),.c (pv x t),.u 2] [] [(2,2,ws x++(ws t))] [RG.z 8,ws x,ws x++(ws t)] [2,3,5,6] ⟨ld iQ i109,cl r,RG.pt i109,yEZ⟩ ?_;intro U O c;repeat apply XG
    refine c.T [.x (pv x t),.x tZ,.u 0,.x tZ] [] [(0,2,ws x++(ws t))] [ws x++(ws t),ws x,ws x++(ws t)] [2,3] ⟨ld iQ i109,st,RG.pt i109,st,yEZ⟩ ?_;intro h1 h0 j;refine Za<|XN (v:=(.tuple #[pv x t,tZ])) (cU j.st (t:=2) (u:=3) (T:=131) rfl (b:=0) rfl (j.at (s:=(.p 0 0))) (j.at (s:=(.v tZ))) iQ i109) j.sl.defers ?_
    exact⟨_,rfl,j.st.bel.below,rfl⟩
   .rw[yEY J];have X:ub k[0]! = 2:=oM;refine p.U [.x tZ,.x tZ,.x (v33 g o cap),.x (oZ g o),.x (.int .u8 2),.x fZ,.x fZ] [2,3,5,6,49] ⟨st,st,st,eO rfl 23 (t:=45) (iZ 0) rfl (.v (v33 g o cap)) sx (λμ w=>Ff (g:=g) (o:=o) (n:=33) (cap:=cap) dC (w:=w)),eI rfl (k:=g) (off:=o) d Yf (T:=5) (t:=46) rfl (v:=(.int .u8 2)) rfl sx (b.trans (by rw[X])) u5,st,st,yEZ⟩ ?_;intro Q w8 u;repeat apply XG
    refine Yb u.ev ?_;apply YU;repeat apply XG
    refine u.T [.x (pv x y),.x tZ,.u 0,.x tZ] [] [(0,2,ws x++(ws y))] [ws x++(ws y),ws x,ws x++(ws y)] [2,3] ⟨ld iQ i109,st,RG.pt i109,st,yEZ⟩ ?_;intro U O c;refine Za<|XN (v:=(.tuple #[pv x y,tZ])) (cU c.st (t:=2) (u:=3) (T:=131) rfl (b:=0) rfl (c.at (s:=(.p 0 0))) (c.at (s:=(.v tZ))) iQ i109) c.sl.defers ?_
    exact⟨_,rfl,c.st.bel.below,rfl⟩
def Arg33(w:XA)(v:XB)(k:Bs):Prop:=∃(p:Option Y0) (n cap:Nat),v=.slice p n cap/\k.size=n/\(n=33->∃g o,p=some ⟨g,o,none⟩/\33<=cap/\g<w.heap.size/\hZ w g o k)
def Arg33.below{w k:XA}{v:XB}{b:Bs}(h:Arg33 w v b)(d:kZ w k):Arg33 k v b:=by
 obtain⟨p,n,cap,rfl,e,i⟩:=h;refine⟨p,n,cap,rfl,e,λj=>?_⟩;obtain⟨g,o,m,f,c,l⟩:=i j;exact⟨g,o,m,f,XC c d.size,Holds.below l d c⟩
def uN{v:XB}{k:Bs}{w:XA}(C:Fld P)(hv:Arg33 w v k):cZ 156 #[v] w (rZ w λe w'=>e=rdV (rd P k)):=by
 obtain⟨p,n,cap,rfl,c,i⟩:=hv;by_cases b:n=33
 .subst b;obtain⟨g,o,rfl,j,f,d⟩:=i rfl;exact Wv C g o cap k w c j f d
 .unfold rd;rw[yEY (by rw[c];exact b)];exact Rf C p n cap 0 w b
def bx(n:Nat):Bs:=be32 (n%2^64) (n/2^64%2^64) (n/2^128%2^64) (n/2^192%2^64)
def cQ(n:Nat):(bx n).size=32:=by unfold bx;exact AY
def mark(n:Nat):UInt8:=if n%2=1 then 3 else 2
def uE(x y:Fin P):Bs:=if x=0/\y=0 then XT 33 0 else #[mark y.val]++bx x.val
def Hp{x:Fin P}(C:Fld P)(w:XA):cZ 27 #[fv x] w (rZ w λe w'=>∃g,e=sZ g 32 32/\w.heap.size<=g/\hZ w' g 0 (bx x.val)):=
 (A6 _ _ w (C.four x)).mono (by
  rintro e w' ⟨v,rfl,i,g,a,b,c,d,rfl,f,k,l⟩;refine⟨_,rfl,i,g,rfl,f,?_⟩;have j:fv x=.agg #[uZ ((x.val%2^64:Nat):Int),uZ ((x.val/2^64%2^64:Nat):Int),uZ ((x.val/2^128%2^64:Nat):Int),uZ ((x.val/2^192%2^64:Nat):Int)]:=rfl;rw[j]at k;simp only[X9.injEq,Array.mk.injEq,yEb.injEq,YW.injEq,true_and,and_true,Int.ofNat_inj]at k;obtain⟨rfl,rfl,rfl,rfl⟩:=k;exact l)
def Qq(C:Fld P)(y:Fin P):Gives 120 #[fv y] (.bool (decide (y.val%2=1))):=λw =>
 (Hk (C.four y)).mono (by rintro e w' ⟨v,rfl,k,rfl⟩;exact⟨_,rfl,k,rfl⟩)
def EE:(prog.info? 5).map (λi=>(i.zero,i.size,i.bytes))=some (some (.int .u8 0),1,1):=kR
def Jf:prog.underlying 23=some (.slice 5):=kR
def nC(w:XA)(T:Bs)(e:XB)(w':XA):Prop:=∃g cap,e=sZ g 33 cap/\33<=cap/\w.heap.size<=g/\g<w'.heap.size/\hZ w' g 0 T
def WI(w:XA):(yAh 23 (iZ 33) (iZ 33)).run prog w=.ok (sZ w.heap.size 33 33) (w.alloc (.cells (madeCells #[.int .u8 0] 33) 5)):=
 run_make_row' (P:=prog) 23 5 (.int .u8 0) 1 Jf EE rfl .i64 .i64 33 dC dC w
def RZ(w:XA)(o:Obj):hZ ((w.alloc o).alloc (.cells (madeCells #[.int .u8 0] 33) 5)) (w.heap.size+1) 0 (XT 33 0):=by
 have h:=Holds.made (enc:=encB) (w.alloc o) 5 33 (0:UInt8);rw[XP]at h;exact h
omit [NeZero P] in
theorem lF(x y:Fin P):pv x y=.agg #[uZ ((x.val%2^64:Nat):Int),uZ ((x.val/2^64%2^64:Nat):Int),uZ ((x.val/2^128%2^64:Nat):Int),uZ ((x.val/2^192%2^64:Nat):Int),uZ ((y.val%2^64:Nat):Int),uZ ((y.val/2^64%2^64:Nat):Int),uZ ((y.val/2^128%2^64:Nat):Int),uZ ((y.val/2^192%2^64:Nat):Int)]:=rfl
def EX(C:Fld P)(x y:Fin P)(g:x=0/\y=0)(w:XA):cZ 70 #[pv x y] w (rZ w λe w'=>nC w (XT 33 0) e w'):=by
 have k:=LD C (x:=x) (y:=y) (z:=0) (t:=0) g;rw[<-iE,lF]at k;rw[lF];generalize ((x.val%2^64:Nat):Int)=a at k⊢;generalize ((x.val/2^64%2^64:Nat):Int)=b at k⊢;generalize ((x.val/2^128%2^64:Nat):Int)=c at k⊢;generalize ((x.val/2^192%2^64:Nat):Int)=d at k⊢;generalize ((y.val%2^64:Nat):Int)=p at k⊢;generalize ((y.val/2^64%2^64:Nat):Int)=q at k⊢;generalize ((y.val/2^128%2^64:Nat):Int)=r at k⊢;generalize ((y.val/2^192%2^64:Nat):Int)=s at k⊢;have i:=WI;generalize j:(XT 33 0:Bs)=T;go_enter func70,ntmps70;go_wp2;go_ret;have f:=RZ w (.cells #[uZ a,uZ b,uZ c,uZ d,uZ p,uZ q,uZ r,uZ s] 131);rw[j]at f;exact⟨_,rfl,below2 _ _ _,_,33,rfl,oM,oM,by simp,f⟩
def Ll{w:XA}{k g m:Nat}{B:Bs}(l:B.size=32)(s:w.cell? ⟨k,0,none⟩=some (.int .u8 m))(o:Holds encB w g 0 B)(r:m<256:=by decide):
 ∃(w':XA) (cap:Nat),(YG #[23,23] 23 #[sZ k 1 1,sZ g 32 32]).run prog w=.ok (sZ w.heap.size 33 cap) w'/\kZ w w'/\33<=cap/\w.heap.size<w'.heap.size/\Holds encB w' w.heap.size 0 (#[XS m]++B):=by
 obtain⟨i,p,d⟩:=XE.1 EE;simp only[Ze.injEq]at d;obtain⟨n,f,q⟩:=d;have e:=run_append_grow (P:=prog) w 23 23 5 i (.int .u8 0) Jf p n (aZ k) 1 1 [.int .u8 m] (by rw[f];rfl) (λj v b=>by
  cases j with
  | zero =>
   obtain rfl:YW .u8 m=v:=by simpa using b
   rw[yDi];exact s
  | succ j=>simp at b) ⟨g,0,none⟩ 32 32 (B.toList.map encB) (by rw[f,XZ,XU,l]) (λj v b=>by
  have c:j<B.size:=by
   have:=(XM.1 b).1;rwa[XZ,XU]at this
  rw[yDi,(o j c).1];rw[YB,YE,X8 c]at b;rw[getElem!_pos B j c];exact b) dC dC (by rw[q];decide)
 refine⟨_,_,e,?_,?_,?_,?_⟩
 .exact(XR _ w).drew.trans (aD (w:=w.drew) _)
 .exact grownCap_ge w (1+32) 1 5
 .show w.drew.heap.size<(w.drew.alloc _).heap.size;rw[XP];exact yBW _
 .intro j b;have c:(#[XS m]++B).size=33:=by rw[Yl,l];rfl
  refine⟨?_,Zu w.drew _ _ _⟩;show(w.drew.alloc _).cell? ⟨w.drew.heap.size,0+j,none⟩=_;rw[XI,Yr,getElem!_pos _ j b,yAB (by
   rw[Yl,YF,YF,XZ,XU];show j<1+B.size;omega)]
  cases j with
  | zero =>
   rw[yAB (by simp),yBq (by simp)];show some (YW .u8 m)=some (encB (XS m));unfold encB;rw[nH,X6 r]
  | succ i =>
   rw[yBg (by simp),yCD (by simp),Yj,YB,YE];show Option.map encB B[i]? = some (encB B[i]);rw[X8 oM];rfl
def PQ(w:XA)(a b c d p q r s:Nat):Kept w w.heap.size [⟨w.heap.size,0,a,b,c,d⟩,⟨w.heap.size,4,p,q,r,s⟩] (w.alloc (.cells #[uZ a,uZ b,uZ c,uZ d,uZ p,uZ q,uZ r,uZ s] 131)):=by
 have F:=At8.made w 131 a b c d p q r s rfl;refine((Kept.mk1 (aD (w:=w) _) (aD _).size).cons ?_).cons ?_
 .exact⟨F.c4,F.c5,F.c6,F.c7,F.fz⟩
 .exact⟨F.c0,F.c1,F.c2,F.c3,F.fz⟩
def IQ(C:Fld P)(x y:Fin P)(L:¬(x=0/\y=0))(ho:y.val%2=1)(w:XA):cZ 70 #[pv x y] w (rZ w λe w'=>nC w (#[3]++bx x.val) e w'):=by
 have f:=EK C (x:=x) (y:=y) (z:=0) (t:=0) L;rw[<-iE,lF]at f;rw[lF];have i:∀w,cZ 120 #[.agg #[uZ ((y.val%2^64:Nat):Int),uZ ((y.val/2^64%2^64:Nat):Int),uZ ((y.val/2^128%2^64:Nat):Int),uZ ((y.val/2^192%2^64:Nat):Int)]] w (rZ w λe w'=>e=tZ):=λw=>by
  have h:=Qq C y w;rw[decide_eq_true ho]at h;exact h
 have k:∀w,cZ 27 #[.agg #[uZ ((x.val%2^64:Nat):Int),uZ ((x.val/2^64%2^64:Nat):Int),uZ ((x.val/2^128%2^64:Nat):Int),uZ ((x.val/2^192%2^64:Nat):Int)]] w (rZ w λe w'=>∃g,e=sZ g 32 32/\w.heap.size<=g/\hZ w' g 0 (bx x.val)):=Hp C;have n:=cQ x.val;generalize bx x.val=B at k n⊢;generalize x.val%2^64=a at f i k⊢;generalize x.val/2^64%2^64=b at f i k⊢;generalize x.val/2^128%2^64=c at f i k⊢;generalize x.val/2^192%2^64=d at f i k⊢;generalize y.val%2^64=p at f i k⊢;generalize y.val/2^64%2^64=q at f i k⊢;generalize y.val/2^128%2^64=r at f i k⊢;generalize y.val/2^192%2^64=s at f i k⊢;have X:=mk1 (f);go_enter func70,ntmps70;go_wp2_with fail
 have l:=PQ w a b c d p q r s;generalize I:w.heap.size=T at l⊢;apply(i _).mono;rintro e u ⟨v,rfl,A,rfl⟩;replace l:=l.call A;obtain⟨K,N,R,S,V⟩:=l.head;have zx:=l.head.lt;go_wp2_with fail
 apply(k _).mono;rintro e J ⟨v,rfl,j,g,rfl,W,M⟩;have Q:J.cell? ⟨u.heap.size,0,none⟩=some (.int .u8 3):=by
  rw[j.cell (p:=⟨u.heap.size,0,none⟩) (by show u.heap.size<_;rw[XP];omega),Yr];rfl
 have o:=XH l.le (XH (by rw[XP];omega) j.size);have E:=mk1 (((l.alloc _).call j).bl);obtain⟨U,O,F,G,D,m,H⟩:=Ll n Q M;go_wp2_with (at_builtin;refine yAj _ rfl _ _ 23 23 rfl _ _ rfl rfl _ _ F ?_)
 go_ret;refine⟨_,rfl,?_,_,O,rfl,D,?_,m,H⟩
 .rw[I];exact E.trans (G.mono o)
 .rw[I];exact o
def EY(C:Fld P)(x y:Fin P)(L:¬(x=0/\y=0))(ho:¬y.val%2=1)(w:XA):cZ 70 #[pv x y] w (rZ w λe w'=>nC w (#[2]++bx x.val) e w'):=by
 have f:=EK C (x:=x) (y:=y) (z:=0) (t:=0) L;rw[<-iE,lF]at f;rw[lF];have i:∀w,cZ 120 #[.agg #[uZ ((y.val%2^64:Nat):Int),uZ ((y.val/2^64%2^64:Nat):Int),uZ ((y.val/2^128%2^64:Nat):Int),uZ ((y.val/2^192%2^64:Nat):Int)]] w (rZ w λe w'=>e=fZ):=λw=>by
  have h:=Qq C y w;rw[decide_eq_false ho]at h;exact h
 have k:∀w,cZ 27 #[.agg #[uZ ((x.val%2^64:Nat):Int),uZ ((x.val/2^64%2^64:Nat):Int),uZ ((x.val/2^128%2^64:Nat):Int),uZ ((x.val/2^192%2^64:Nat):Int)]] w (rZ w λe w'=>∃g,e=sZ g 32 32/\w.heap.size<=g/\hZ w' g 0 (bx x.val)):=Hp C;have n:=cQ x.val;generalize bx x.val=B at k n⊢;generalize x.val%2^64=a at f i k⊢;generalize x.val/2^64%2^64=b at f i k⊢;generalize x.val/2^128%2^64=c at f i k⊢;generalize x.val/2^192%2^64=d at f i k⊢;generalize y.val%2^64=p at f i k⊢;generalize y.val/2^64%2^64=q at f i k⊢;generalize y.val/2^128%2^64=r at f i k⊢;generalize y.val/2^192%2^64=s at f i k⊢;have X:=mk1 (f);go_enter func70,ntmps70;go_wp2_with fail
 have l:=PQ w a b c d p q r s;generalize I:w.heap.size=T at l⊢;apply(i _).mono;rintro e u ⟨v,rfl,A,rfl⟩;replace l:=l.call A;obtain⟨K,N,R,S,V⟩:=l.head;have zx:=l.head.lt;go_wp2_with fail
 apply(k _).mono;rintro e J ⟨v,rfl,j,g,rfl,W,M⟩;have Q:J.cell? ⟨u.heap.size,0,none⟩=some (.int .u8 2):=by
  rw[j.cell (p:=⟨u.heap.size,0,none⟩) (by show u.heap.size<_;rw[XP];omega),Yr];rfl
 have o:=XH l.le (XH (by rw[XP];omega) j.size);have E:=mk1 (((l.alloc _).call j).bl);obtain⟨U,O,F,G,D,m,H⟩:=Ll n Q M;go_wp2_with (at_builtin;refine yAj _ rfl _ _ 23 23 rfl _ _ rfl rfl _ _ F ?_)
 go_ret;refine⟨_,rfl,?_,_,O,rfl,D,?_,m,H⟩
 .rw[I];exact E.trans (G.mono o)
 .rw[I];exact o
def wN{x y:Fin P}(C:Fld P)(w:XA):cZ 70 #[pv x y] w (rZ w λe w'=>nC w (uE x y) e w'):=by
 unfold uE mark;by_cases k:x=0/\y=0
 .rw[yEX k];exact EX C x y k w
 .rw[yEY k];by_cases ho:y.val%2=1
  .rw[yEX ho];exact IQ C x y k ho w
  .rw[yEY ho];exact EY C x y k ho w
def Uz{N:Nat}(e:N<=512):∃C0:List XB,C0.length=8*N/\∀w:XA,(yAh 138 (iZ N) (iZ N)).run prog w=.ok (sZ w.heap.size N N) (w.alloc (.cells C0.toArray 131)):=by
 have g:prog.underlying 138=some (.slice 131):=kR;have n:(prog.info? 131).map (λi=>(i.size,decide (i.bytes<=4000),i.zero.isSome))=some (8,true,true):=kR;obtain⟨i,b,k⟩:=XE.1 n;simp only[Ze.injEq,decide_eq_true_eq]at k;obtain⟨f,j,d⟩:=k;obtain⟨z,m⟩:=YQ.1 d;refine⟨(madeCells z.cells (N*8)).toList,by rw[XU,yBS,YK],λw=>?_⟩;have l:(i.bytes:Int)*(N:Int)<=281474976710656:=by
  have:i.bytes*N<=4000*512:=ZD j e;have c:((i.bytes*N:Nat):Int)<=281474976710656:=oM;rwa[yAm]at c
 have:=run_make (P:=prog) w 138 131 i z g b m .i64 .i64 (N:Int) (N:Int) oM oM l oM;rw[yA9,f]at this;rw[yAE];exact this
def WH{N:Nat}(e:N<=512):∃C0:List XB,C0.length=4*N/\∀w:XA,(yAh 127 (iZ N) (iZ N)).run prog w=.ok (sZ w.heap.size N N) (w.alloc (.cells C0.toArray 42)):=by
 have g:prog.underlying 127=some (.slice 42):=kR;have n:(prog.info? 42).map (λi=>(i.size,decide (i.bytes<=4000),i.zero.isSome))=some (4,true,true):=kR;obtain⟨i,b,k⟩:=XE.1 n;simp only[Ze.injEq,decide_eq_true_eq]at k;obtain⟨f,j,d⟩:=k;obtain⟨z,m⟩:=YQ.1 d;refine⟨(madeCells z.cells (N*4)).toList,by rw[XU,yBS,YK],λw=>?_⟩;have l:(i.bytes:Int)*(N:Int)<=281474976710656:=by
  have:i.bytes*N<=4000*512:=ZD j e;have c:((i.bytes*N:Nat):Int)<=281474976710656:=oM;rwa[yAm]at c
 have:=run_make (P:=prog) w 127 42 i z g b m .i64 .i64 (N:Int) (N:Int) oM oM l oM;rw[yA9,f]at this;rw[yAE];exact this
structure Rows(sz N:Nat)(cell:Nat->List XB)(m:Nat)(C:List XB):Prop where
 len:C.length=sz*N
 row:∀j r,j<m->r<sz->C[sz*j+r]? = (cell j)[r]?
def rq(N:Nat)(k:Bs):Option Nat:=if k.size=32/\beV k.toList<N then some (beV k.toList) else none
def rqV:Option Nat->XB
 | none=>.tuple #[nv 0,fZ]
 | some n=>.tuple #[nv n,tZ]
def iD:Gives 28 #[] gv1:=λw=>(Dn).mono (by rintro e w' ⟨rfl,rfl⟩;exact⟨_,rfl,aD _,rfl⟩)
def FQ{v:XB}{c:Bs}{w:XA}{N:Nat}(hG:Gap 4624529908474429119 4994812053365940164 1 N)(hv:Arg w v c):cZ 29 #[gv1,v] w (rZ w λe w'=>e=rqV (rq N c)):=by
 obtain⟨p,n,cap,rfl,b,m⟩:=hv;unfold rq;by_cases d:n=32
 .subst d;obtain⟨g,o,rfl,l,i,q⟩:=m rfl;apply(zZ _ _ _ N g o cap c hG w b l i q).mono;rintro e w' ⟨v,rfl,k,⟨f,r,rfl,j⟩|⟨f,rfl⟩⟩
  .rw[yEX ⟨b,f⟩];exact⟨_,rfl,k,by rw[j.nv];rfl⟩
  .rw[yEY (λh=>oM)];exact⟨_,rfl,k,rfl⟩
 .apply(MD _ p n cap w _ _ _ rfl d).mono;rintro e w' ⟨v,rfl,k,rfl⟩;rw[yEY (λh=>d (b.symm.trans h.1))];exact⟨_,rfl,k,rfl⟩
structure RefP(p0 p1 p2 p3 c0 c1 c2 c3 P:Nat):Prop where
 hp0:p0<18446744073709551616
 hp1:p1<18446744073709551616
 hp2:p2<18446744073709551616
 hp3:p3<18446744073709551616
 hc0:c0<18446744073709551616
 hc1:c1<18446744073709551616
 hc2:c2<18446744073709551616
 hc3:c3<18446744073709551616
 eP:P=val p0 p1 p2 p3
 hP:P+val c0 c1 c2 c3=top
 hP2:top<2*P
def T9:RefP 13822214165235122497 13451932020343611451 18446744073709551614 18446744073709551615 4624529908474429119 4994812053365940164 1 0 Go.Proofs.YtlofhpkoaljmeaaGreat.p1:=
 ⟨dC,dC,dC,dC,dC,dC,dC,dC,dK,dK,dK⟩
def Xz(v:XB)(n:Nat):Prop:=∃a b c d e f g k:Nat,v=.agg #[uZ a,uZ b,uZ c,uZ d,uZ e,uZ f,uZ g,uZ k] /\
 a<2^64/\b<2^64/\c<2^64/\d<2^64/\e<2^64/\f<2^64/\g<2^64/\k<2^64 /\
 n=val a b c d+top*val e f g k
def wordOf(a b c d k:Nat):Nat:=if k<8 then a else if k<16 then b else if k<24 then c else d
section
structure Ord(N:Nat):Prop where
 gap:Gap 4624529908474429119 4994812053365940164 1 N
 ref:RefP 13822214165235122497 13451932020343611451 18446744073709551614 18446744073709551615 4624529908474429119 4994812053365940164 1 0 N
 le:N<=top
 n2:2<=N%18446744073709551616
variable {N:Nat}
def Ord.pos(O:Ord N):0<N:=oN O.n2
def Ord.four(O:Ord N){a:Nat}(h:a<N):Four (nv a) a:=iI (XC h O.le)
def sMi(N a b:Nat):Nat:=(a+N-b)%N
def sTi(N a b:Nat):Nat:=a*b%N
def sIn(N a:Nat):Nat:=a^(N-2)%N
def JI(O:Ord N){a b:Nat}(c:a<N)(k:b<N):Gives 121 #[gv1,nv a,nv b] (nv (sMi N a b)):=λw =>
 (uJ O.gap (O.four c) (O.four k) c k).mono (by rintro e w' ⟨v,rfl,k,d⟩;exact⟨_,rfl,k,d.nv⟩)
def JF(O:Ord N){a b:Nat}(c:a<N)(k:b<N):Gives 51 #[gv1,nv a,nv b] (nv (sTi N a b)):=λw =>
 (pW O.gap (O.four c) (O.four k)).mono (by rintro e w' ⟨v,rfl,k,d⟩;exact⟨_,rfl,k,d.nv⟩)
def Q9(O:Ord N){a:Nat}(k:a<N):Gives 174 #[gv1,nv a] (nv (sIn N a)):=λw =>
 (vK _ _ _ N _ a O.gap O.n2 (O.four k) w).mono (by rintro e w' ⟨v,rfl,c,b⟩;exact⟨_,rfl,c,b.nv⟩)
def Kg{a x y z u:Nat}(h:nv a=.agg #[uZ x,uZ y,uZ z,uZ u]):be32 x y z u=bx a:=by
 have k:wn a=[uZ x,uZ y,uZ z,uZ u]:=by
  unfold nv at h;injection h with h
  exact congrArg Array.toList h
 unfold wn at k;simp only[yEb.injEq,YW.injEq,true_and,and_true,Int.natCast_inj]at k;obtain⟨rfl,rfl,rfl,rfl⟩:=k;rfl
def cb(b:Bs):List XB:=b.toList.map encB
def lS(b:Bs):(cb b).length=b.size:=by unfold cb;rw[XZ,XU]
def sJ{w:XA}{g:Nat}{b:Bs}(h:hZ w g 0 b):w.rangeAt g 0 (cb b)/\w.there g 0 (cb b).length:=by
 refine⟨λj v hv=>?_,λj k=>?_⟩
 .have k:j<b.size:=by rw[<-lS];exact(XM.1 hv).1
  rw[(h j k).1];unfold cb at hv;rw[YB,YE,X8 k]at hv;rw[getElem!_pos b j k];exact hv
 .rw[lS]at k;exact⟨by rw[(h j k).1];rfl,(h j k).2⟩
theorem cb_holds{w:XA}{g:Nat}{b:Bs}(c:w.rangeAt g 0 (cb b))(d:w.there g 0 (cb b).length):hZ w g 0 b:=λj k=>by
 refine⟨c j _ ?_,(d j (by rw[lS];exact k)).2⟩;unfold cb;rw[YB,YE,X8 k,getElem!_pos b j k];rfl
def MJ(f:FuncId)(args:Array XB)(b:Bs)(n:Nat):Prop:=∀w,cZ f args w (Ret λe w'=>∃k,Made w k (cb b) w'/\e=sZ k n n)
def JJ(O:Ord N){a:Nat}(j:a<N):MJ 27 #[nv a] (bx a) 32:=λw =>
 (A6 _ a w (O.four j)).mono (by
  rintro e w' ⟨v,rfl,d,g,x,y,z,u,rfl,b,c,k⟩;rw[Kg c]at k;obtain⟨f,i⟩:=sJ k;exact⟨_,rfl,g,⟨d,b,Holds.lt k (by rw[cQ];omega),f,i⟩,rfl⟩)
end
def WY{a b c d p q r s:Nat}{w:XA}:(binOp .eql 44 (.agg #[uZ a,uZ b,uZ c,uZ d]) (.agg #[uZ p,uZ q,uZ r,uZ s])).run prog w=.ok (.bool (decide (a=p/\b=q/\c=r/\d=s))) w:=by
 go_simp;rw[GL 9997,Yz];by_cases k:a=p/\b=q/\c=r/\d=s
 .rw[decide_eq_true k];obtain⟨rfl,rfl,rfl,rfl⟩:=k;simp
 .have e:(decide (a=p) && (decide (b=q) && (decide (c=r) && decide (d=s))))=false:=by
   rw[<-Bool.not_eq_true,XV,XV,XV];simpa using k
  rw[decide_eq_false k,e];simp
def eqS{w:XA}{a b:Nat}(k:a<top)(c:b<top):(binOp .eql 44 (nv a) (nv b)).run prog w=.ok (.bool (decide (a=b))) w:=by
 refine(WY).trans ?_;simp only[A9 k c]
def u40:yZ 44:=yQ
def i40:gZ 44 4:=gQ
def u38:yZ 42:=yQ
def i38:gZ 42 4:=gQ
def D3(O:Ord N)(a b:Nat)(c:a<N)(e:b<N):Gives 71 #[(nv a),(nv b)] (nv (sMi N a b)):=by
 intro w;go_enter func71,ntmps71;refine RG.M.enter [(0,.v (nv a)),(1,.v (nv b))] 12 kR ?_;intro a0 f;repeat apply XG
 refine f.T [.m 0,.m 1,.m 2] [(0,wn a),(1,wn b),(2,RG.z 4)] [] [wn a,wn b,RG.z 4] [2,3,4] ⟨mk 0 44,mk 1 44,mk 2 44,yEZ⟩ ?_;intro m n l i g d;repeat apply XG
 refine d.D [.c gv1,.s (.p 0 0),.x (nv a),.s (.p 1 0),.x (nv b),.c (nv (sMi N a b)),.x (nv (sMi N a b)),.u 2] [] [(2,7,wn (sMi N a b))] [wn a,wn b,wn (sMi N a b)] [4] ⟨cl iD,st,ld u38 i38,st,ld u38 i38,cl (JI O c e),st,RG.pt i40,yEZ⟩ ?_;intro a2 j k;refine Za<|XN (v:=(nv (sMi N a b))) (aH k.st rfl rfl (k.at (s:=(.p 2 0))) u40 i40) k.sl.defers ?_
 exact⟨_,rfl,k.st.bel.below,rfl⟩
def gJ(O:Ord N)(a b:Nat)(c:a<N)(e:b<N):Gives 26 #[(nv a),(nv b)] (nv (sTi N a b)):=by
 intro w;go_enter func26,ntmps26;refine RG.M.enter [(0,.v (nv a)),(1,.v (nv b))] 12 kR ?_;intro a0 f;repeat apply XG
 refine f.T [.m 0,.m 1,.m 2] [(0,wn a),(1,wn b),(2,RG.z 4)] [] [wn a,wn b,RG.z 4] [2,3,4] ⟨mk 0 44,mk 1 44,mk 2 44,yEZ⟩ ?_;intro m n l i g d;repeat apply XG
 refine d.D [.c gv1,.s (.p 0 0),.x (nv a),.s (.p 1 0),.x (nv b),.c (nv (sTi N a b)),.x (nv (sTi N a b)),.u 2] [] [(2,7,wn (sTi N a b))] [wn a,wn b,wn (sTi N a b)] [4] ⟨cl iD,st,ld u38 i38,st,ld u38 i38,cl (JF O c e),st,RG.pt i40,yEZ⟩ ?_;intro a2 j k;refine Za<|XN (v:=(nv (sTi N a b))) (aH k.st rfl rfl (k.at (s:=(.p 2 0))) u40 i40) k.sl.defers ?_
 exact⟨_,rfl,k.st.bel.below,rfl⟩
def wE(O:Ord N)(a:Nat)(b:a<N):Gives 144 #[(nv a)] (nv (sIn N a)):=by
 intro w;go_enter func144,ntmps144;refine RG.M.enter [(0,.v (nv a))] 8 kR ?_;intro a0 d;repeat apply XG
 refine d.T [.m 0,.m 1] [(0,wn a),(1,RG.z 4)] [] [wn a,RG.z 4] [1,2] ⟨mk 0 44,mk 1 44,yEZ⟩ ?_;intro i j f e c;repeat apply XG
 refine c.D [.c gv1,.s (.p 0 0),.x (nv a),.c (nv (sIn N a)),.x (nv (sIn N a)),.u 1] [] [(1,5,wn (sIn N a))] [wn a,wn (sIn N a)] [2] ⟨cl iD,st,ld u38 i38,cl (Q9 O b),st,RG.pt i40,yEZ⟩ ?_;intro a2 g k;refine Za<|XN (v:=(nv (sIn N a))) (aH k.st rfl rfl (k.at (s:=(.p 1 0))) u40 i40) k.sl.defers ?_
 exact⟨_,rfl,k.st.bel.below,rfl⟩
def Nq(v:XB)(m:Nat)(ok:Bool)(w:XA)(b:∀w',BelX w.heap.size [] w w'->cZ 29 #[gv1,v] w' (Ret λe c=>kZ w' c/\e=.tuple #[nv m,.bool ok])):
 cZ 11 #[v] w (rZ w λe w'=>e=.tuple #[nv m,.bool ok]):=by
 go_enter func11,ntmps11;refine RG.M.enter [(0,.v v)] 15 kR ?_;intro a0 g;repeat apply XG
 refine g.T [.m 0,.x fZ] [(0,RG.z 4)] [] [RG.z 4] [0,2,3] ⟨mk 0 44,st,yEZ⟩ ?_;intro n p i d;repeat apply XG
 refine d.T [.c gv1,.x v,.c (.tuple #[nv m,.bool ok]),.x (.tuple #[nv m,.bool ok]),.x (nv m),.x (.bool ok),.m 1,.u 1,.x (.bool ok)] [(6,RG.z 4)] [(1,7,wn m)] [RG.z 4,wn m] [2,3,4,5] ⟨cl iD,st,clB (λ_ _=>kR) b,st,st,st,mk 1 42,RG.pt i38,st,yEZ⟩ ?_;intro q a2 o f;repeat apply XG
 refine f.T [.x (nv m),.x (nv m),.x (.bool ok),.u 0,.x (.bool ok)] [] [(0,3,wn m)] [wn m,wn m] [2,3] ⟨ld u38 i38,st,st,RG.pt i40,st,yEZ⟩ ?_;intro j l k;refine Za<|XN (v:=.tuple #[nv m,.bool ok]) (cU k.st rfl rfl (k.at (s:=.p 0 0)) (k.av (v:=.bool ok) kR) u40 i40) k.sl.defers ?_
 exact⟨_,rfl,k.st.bel.below,rfl⟩
def vZ{v:XB}{k:Bs}{w:XA}(O:Ord N)(hv:Arg w v k):cZ 11 #[v] w (rZ w λe w'=>e=.tuple #[nv ((rq N k).getD 0),.bool (rq N k).isSome]):=by
 refine Nq v _ _ w λw' c=>?_
 have h:=FQ O.gap (hv.below c.below);cases b:rq N k with
 | none=>rw[b]at h;exact h
 | some n=>rw[b]at h;exact h
def nP(O:Ord N){a:Nat}(c:a<N):MJ 10 #[nv a] (bx a) 32:=by
 intro w;go_enter func10,ntmps10;refine RG.M.enter [(0,.v (nv a))] 6 kR ?_;intro a0 e;repeat apply XG
 refine e.T [.m 0,.x nZ] [(0,wn a)] [] [wn a] [1,2] ⟨mk 0 44,st,yEZ⟩ ?_;intro l g f d;repeat apply XG
 refine d.t [.s 3 [] (.p 0 0),.x 4 [(3,0)] (nv a),⟨some 5,[(4,1)],.s 1 32 32,.make 1⟩,.s 2 [(5,2)] (.s 1 32 32)] [(2,cb (bx a))] [] [wn a,cb (bx a)] [(2,.s 1 32 32)] ⟨st,ld u38 i38,RG.cm 1 (λw _=>JJ O c w) λ_ _=>kR,st,yEZ⟩ ?_;intro j a2 i k;refine Za<|XN (v:=_) (jH rfl (k.at (s:=.s 1 32 32))) k.sl.defers ?_
 exact⟨_,rfl,_,k.st.made (b:=1) rfl,rfl⟩
namespace SP
def WM(x:BitVec 64):(x.toNat:Int)<2^64:=by
 have:=x.isLt;omega
def dU(x:BitVec 64):yAf 64 (x.toNat:Int)=x:=by
 apply yC2;rw[yDa,yBY];exact X6 x.isLt
def fO(x:BitVec 64):Yt.wrap (x.toNat:Int)=x.toNat:=by
 rw[ZO];have:=WM x;exact yDS oM this
def u(v:BitVec 64):Int:=(v.toNat:Int)
def cY(a b:BitVec 64):bits .xor .u64 (u a) (u b)=u (a ^^^ b):=by
 show Yt.wrap ((yAf 64 (a.toNat:Int) ^^^ yAf 64 (b.toNat:Int)).toNat:Int)=_;rw[dU,dU,fO];rfl
def dQ(a b:BitVec 64):bits .and .u64 (u a) (u b)=u (a &&& b):=by
 show Yt.wrap ((yAf 64 (a.toNat:Int) &&& yAf 64 (b.toNat:Int)).toNat:Int)=_;rw[dU,dU,fO];rfl
def dW(a b:BitVec 64):bits .or .u64 (u a) (u b)=u (a ||| b):=by
 show Yt.wrap ((yAf 64 (a.toNat:Int) ||| yAf 64 (b.toNat:Int)).toNat:Int)=_;rw[dU,dU,fO];rfl
def qY(a:BitVec 64):bits .xor .u64 Yt.max (u a)=u (~~~a):=by
 have e:Yt.max=u (BitVec.allOnes 64):=dK;rw[e,cY,BitVec.allOnes_xor]
def VF{k:Nat}(b:k<64):bits .and .u64 (k:Int) 63=k:=by
 have h:∀j:Fin 64,bits .and .u64 ((j.val:Nat):Int) 63=(j.val:Int):=dK;exact h ⟨k,b⟩
def JD(x:BitVec 64)(k:Nat):Yt.wrap (u x*2^k)=u (x <<< k):=by
 unfold u;rw[ZO,BitVec.toNat_shiftLeft,Nat.shiftLeft_eq,Int.natCast_emod,yAm,yCO];rfl
def Pw(x:BitVec 64)(k:Nat):u x/2^k=u (x >>> k):=by
 unfold u;rw[BitVec.toNat_ushiftRight,Nat.shiftRight_eq_div_pow,yBM,yCO];rfl
def rol(w:BitVec 64)(n:Nat):BitVec 64:=w <<< n ||| w >>> (64-n)
abbrev St:=Array (BitVec 64)
def enc(v:BitVec 64):XB:=uZ (u v)
def ER(d:St)(x:Nat):BitVec 64:=d[x]! ^^^ d[x+5]! ^^^ d[x+10]! ^^^ d[x+15]! ^^^ d[x+20]!
def qI(d:St):Nat->St
 | 0=>#[0,0,0,0,0]
 | k+1=>(qI d k).setIfInBounds k (ER d k)
def bV(d:St)(i:Nat)(v:BitVec 64):St:=d.setIfInBounds i (d[i]! ^^^ v)
def mU(v:BitVec 64)(x:Nat)(d:St):Nat->St
 | 0=>d
 | m+1=>bV (mU v x d m) (x+5*m) v
def SN(s:St)(x:Nat):BitVec 64:=s[(x+4)%5]! ^^^ rol s[(x+1)%5]! 1
def oP(s d:St):Nat->St
 | 0=>d
 | k+1=>mU (SN s k) k (oP s d k) 5
def xE(d:St):St:=oP (qI d 5) d 5
def dH(d:St)(i:Nat)(v:BitVec 64):(bV d i v).size=d.size:=by simp[bV]
def uL(d:St)(k:Nat):(qI d k).size=5:=by
 induction k with
 | zero=>rfl
 | succ k ih=>simp[qI,ih]
def rV(v:BitVec 64)(x:Nat)(d:St)(m:Nat):(mU v x d m).size=d.size:=by
 induction m with
 | zero=>rfl
 | succ k ih=>simp[mU,dH,ih]
def rC{s d:St}{m:Nat}:(oP s d m).size=d.size:=by
 induction m with
 | zero=>rfl
 | succ k ih=>simp[oP,rV,ih]
structure Tm where
 x:Nat
 y:Nat
 m:BitVec 64
 d:St
def offs(t:Nat):Nat:=(t+1)*(t+2)/2%64
def DK(t:Nat)(s:Tm):Tm:=
 { x:=s.y,y:=(2*s.x+3*s.y)%5,m:=s.d[s.y+5*((2*s.x+3*s.y)%5)]!,d:=s.d.setIfInBounds (s.y+5*((2*s.x+3*s.y)%5)) (rol s.m (offs t)) }
def vN(d:St):Nat->Tm
 | 0=>{ x:=1,y:=0,m:=d[1]!,d:=d }
 | t+1=>DK t (vN d t)
def As(d:St):St:=(vN d 24).d
def FC{d:St}(hd:d.size=25)(t:Nat):(vN d t).x<5/\(vN d t).y<5/\(vN d t).d.size=25:=by
 induction t with
 | zero=>exact⟨show 1<5 by decide,show 0<5 by decide,hd⟩
 | succ t ih =>
  obtain⟨c,b,k⟩:=ih;refine⟨b,?_,?_⟩
  .show(2*(vN d t).x+3*(vN d t).y)%5<5;omega
  .show((vN d t).d.setIfInBounds _ _).size=25;rw[YR,k]
def rowAt(d:St)(i:Nat):St:=
 bV (bV (bV (bV (bV d i (~~~d[i+1]! &&& d[i+2]!)) (i+1) (~~~d[i+2]! &&& d[i+3]!)) (i+2) (~~~d[i+3]! &&& d[i+4]!)) (i+3) (~~~d[i+4]! &&& d[i]!)) (i+4) (~~~d[i]! &&& d[i+1]!)
def zF(d:St):Nat->St
 | 0=>d
 | k+1=>rowAt (zF d k) (5*k)
def chi(d:St):St:=zF d 5
def D6(d:St)(i:Nat):(rowAt d i).size=d.size:=by simp[rowAt,dH]
def zE{d:St}{k:Nat}:(zF d k).size=d.size:=by
 induction k with
 | zero=>rfl
 | succ k ih=>simp[zF,D6,ih]
def xU(r:Nat):Nat:=if 255<2*r then(2*r) ^^^ 369 else 2*r
def xT(r:Nat):Nat->BitVec 64 × Nat
 | 0=>(0,r)
 | j+1=>((xT r j).1 ||| yAX 64 ((xT r j).2%2) <<< (2^j-1),xU (xT r j).2)
def Cu{r:Nat}(h:r<256):xU r<256:=by
 have H:∀j:Fin 256,xU j.val<256:=dK;exact H ⟨r,h⟩
def NR{r j:Nat}(h:r<256):(xT r j).2<256:=by
 induction j with
 | zero=>exact h
 | succ j ih=>exact Cu ih
def Rj{r:Nat}(h:r<256):bits .xor .i64 ((r:Int)*2) 369=(((2*r) ^^^ 369:Nat):Int):=by
 have H:∀j:Fin 256,bits .xor .i64 ((j.val:Int)*2) 369=(((2*j.val) ^^^ 369:Nat):Int):=dK;exact H ⟨r,h⟩
def Rl{r:Nat}(h:r<256):bits .and .i64 (r:Int) 1=u (yAX 64 (r%2)):=by
 have H:∀j:Fin 256,bits .and .i64 (j.val:Int) 1=u (yAX 64 (j.val%2)):=dK;exact H ⟨r,h⟩
def qF(x:BitVec 64):Yt.wrap (u x)=u x:=fO x
def yM(d:St)(c:BitVec 64):St:=bV (chi (As (xE d))) 0 c
def rcC(r:Nat):BitVec 64:=(xT r 7).1
def rcN(r:Nat):Nat:=(xT r 7).2
def Rm{r:Nat}(h:r<256):rcN r<256:=by
 unfold rcN;exact NR h
def Cv:Nat->Nat
 | 0=>1
 | k+1=>rcN (Cv k)
def NS(k:Nat):Cv k<256:=by
 induction k with
 | zero=>decide
 | succ k ih=>exact Rm ih
def tI(d:St):Nat->St
 | 0=>d
 | k+1=>yM (tI d k) (rcC (Cv k))
def perm(d:St):St:=tI d 24
def mF(d:St):(xE d).size=d.size:=rC
def qO{d:St}(hd:d.size=25):(As d).size=25:=(FC hd 24).2.2
def Db(d:St):(chi d).size=d.size:=zE
def CV{d:St}{c:BitVec 64}(hd:d.size=25):(yM d c).size=25:=by
 unfold yM;rw[dH,Db,qO];rw[mF,hd]
def uQ{d:St}(hd:d.size=25)(k:Nat):(tI d k).size=25:=by
 induction k with
 | zero=>exact hd
 | succ k ih=>exact CV ih
def tH{d:St}(hd:d.size=25):(perm d).size=25:=uQ hd 24
abbrev Bs:=Array UInt8
def ub(x:UInt8):Int:=(x.toNat:Int)
def encB(x:UInt8):XB:=.int .u8 (ub x)
def wide(x:UInt8):BitVec 64:=yAX 64 x.toNat
def low(v:BitVec 64):UInt8:=XS v.toNat
def MU(x:UInt8):ub x=u (wide x):=by
 unfold ub u wide;rw[yBY,X6];have:=x.toNat_lt;omega
def Fu(x:UInt8):Yt.wrap (ub x)=u (wide x):=by rw[MU,qF]
def PP(v:BitVec 64):yBc.wrap (u v)=ub (low v):=by
 have e:yBc.wrap (u v)=u v%256:=by simp[yD2,yD3,yDI]
 rw[e];unfold u ub low;rw[yBj];omega
def wX(b:Bs)(o:Nat):Nat->BitVec 64
 | 0=>0
 | i+1=>wX b o i ||| wide b[o+i]! <<< (8*i)
def wordOf(k:Bs)(o:Nat):BitVec 64:=wX k o 8
def lN(k:Bs)(d:St):Nat->St
 | 0=>d
 | i+1=>bV (lN k d i) i (wordOf k (8*i))
def mR(b:Bs)(d:St)(k:Nat):(lN b d k).size=d.size:=by
 induction k with
 | zero=>rfl
 | succ k ih=>simp[lN,dH,ih]
def byteOf(d:St)(k:Nat):UInt8:=low (d[k/8]! >>> (8*(k%8)))
def iH(d:St)(n:Nat):Nat->Bs
 | 0=>XT n 0
 | k+1=>(iH d n k).setIfInBounds k (byteOf d k)
def front(d:St)(n:Nat):Bs:=iH d n n
def mV{d:St}{n k:Nat}:(iH d n k).size=n:=by
 induction k with
 | zero=>simp[iH]
 | succ k ih=>simp[iH,ih]
def dO{d:St}{n:Nat}:(front d n).size=n:=mV
end SP
namespace SP
structure Only(b off n:Nat)(w w':XA):Prop where
 os:w'.os=w.os
 tape:w'.tape=w.tape
 output:w'.output=w.output
 size:w.heap.size<=w'.heap.size
 block:∀k,k<w.heap.size->k≠b->w'.heap[k]? = w.heap[k]?
 cell:∀o,(o<off\/off+n<=o)->w'.cell? ⟨b,o,none⟩=w.cell? ⟨b,o,none⟩
 froz:∀o,w'.frozen? ⟨b,o,none⟩=w.frozen? ⟨b,o,none⟩
variable {b off n:Nat}{w w1 w2:XA}
def Only.refl(b off n:Nat)(w:XA):Only b off n w w:=⟨rfl,rfl,rfl,XD _,λ_ _ _=>rfl,λ_ _=>rfl,λ_=>rfl⟩
def Only.trans(h:Only b off n w w1)(k:Only b off n w1 w2):Only b off n w w2:=
 ⟨k.os.trans h.os,k.tape.trans h.tape,k.output.trans h.output,XH h.size k.size,
  λi d c=>(k.block i (XC d h.size) c).trans (h.block i d c),
  λo ho=>(k.cell o ho).trans (h.cell o ho),λo=>(k.froz o).trans (h.froz o)⟩
def Only.drewN(h:Only b off n w w1)(q:Nat):Only b off n w (w1.drewN q):=⟨h.os,h.tape,h.output,h.size,h.block,h.cell,h.froz⟩
def Only.drew(h:Only b off n w w1):Only b off n w w1.drew:=⟨h.os,h.tape,h.output,h.size,h.block,h.cell,h.froz⟩
def Only.setCell(h:Only b off n w w1){o:Nat}(f:off<=o)(g:o<off+n)(v:XB):Only b off n w (w1.setCell ⟨b,o,none⟩ v):=by
 refine h.trans ⟨rfl,rfl,rfl,by simp,λk _ c=>yB6 _ _ _ _ c,λd ho=>?_,λd=>by simp⟩;exact Yc _ _ _ _ (by intro e;simp only[Addr.mk.injEq,and_true,true_and]at e;omega)
def Only.alloc(h:Only b off n w w1)(d:b<w1.heap.size)(o:Obj):Only b off n w (w1.alloc o):=by
 refine h.trans ⟨rfl,rfl,rfl,by simp,λk c _=>Below.heap_alloc _ _ _ c,λe _=>?_,λe=>?_⟩
 .exact World.cell?_alloc_lt _ _ _ d
 .exact World.frozen?_alloc_old _ _ _ (by show b≠_;omega)
def Only.below(h:Only b off n w w1){B:Nat}(e:B<=w.heap.size)(d:B<=b):Below B w w1:=
 ⟨h.os,h.tape,h.output,h.size,λk c=>h.block k oM oM⟩
def Only.of_below{B:Nat}(h:Below B w w1)(e:B=w.heap.size)(c:b<B):Only b off n w w1:=
 ⟨h.os,h.tape,h.output,h.size,λk d _=>h.block k oM,λo _=>h.cell (p:=⟨b,o,none⟩) c,λo=>h.frozen (p:=⟨b,o,none⟩) c⟩
def Only.other(h:Only b off n w w1){c o:Nat}(k:c≠b)(d:c<w.heap.size):w1.cell? ⟨c,o,none⟩=w.cell? ⟨c,o,none⟩/\w1.frozen? ⟨c,o,none⟩=w.frozen? ⟨c,o,none⟩:=
 ⟨X4 (w:=w) (h.block c d k),Y2 (w:=w) (h.block c d k)⟩
def Only.fresh{o m:Nat}{x:Obj}(h:Only w.heap.size o m (w.alloc x) w1):Below w.heap.size w w1:=
 ((XR _ _).alloc (XD _) x).trans (h.below (by simp) (XD _))
section
variable {α:Type}[Inhabited α]{enc:α->XB}{d:Array α}
def Holds.lt(h:Holds enc w b off d)(hd:0<d.size):b<w.heap.size:=ZY _ _ (h 0 hd).1
def Holds.other{c o:Nat}(h:Holds enc w c o d)(k:Only b off n w w1)(f:c≠b)(hd:0<d.size):Holds enc w1 c o d:=by
 intro j e;have:=h j e;have:=k.other (o:=o+j) f (Holds.lt h hd);rw[this.1,this.2];exact h j e
def Holds.same{o:Nat}(h:Holds enc w b o d)(k:Only b off n w w1)(hd:o+d.size<=off\/off+n<=o):Holds enc w1 b o d:=by
 intro j c;rw[k.cell _ oM,k.froz];exact h j c
def Holds.below{B:Nat}(h:Holds enc w b off d)(k:Below B w w1)(c:b<B):Holds enc w1 b off d:=by
 intro j e;rw[k.cell (p:=⟨b,off+j,none⟩) c,k.frozen (p:=⟨b,off+j,none⟩) c];exact h j e
def Holds.drewN(h:Holds enc w b off d)(q:Nat):Holds enc (w.drewN q) b off d:=h
def Holds.drew(h:Holds enc w b off d):Holds enc w.drew b off d:=h
def Holds.set(h:Holds enc w b off d){i:Nat}(c:i<d.size)(x:α):Holds enc (w.setCell ⟨b,off+i,none⟩ (enc x)) b off (d.setIfInBounds i x):=by
 intro j k;rw[YR]at k;rw[Zq];by_cases e:j=i
 .subst e;rw[getElem!_set_same d j x c];exact⟨ZI _ _ _ (h j k).1,(h j k).2⟩
 .rw[getElem!_set_other d i j x e,Yc _ _ _ _ (by intro e';simp only[Addr.mk.injEq,and_true,true_and]at e';omega)];exact h j k
def Holds.new(w:XA)(t:Yd)(d:Array α):Holds enc (w.alloc (.cells (d.map enc) t)) w.heap.size 0 d:=by
 intro j k;rw[Yr,Zu];refine⟨?_,rfl⟩;simp only[XI,yDr,X8 k,yAq,getElem!_pos d j k]
def Holds.made(w:XA)(t:Yd)(n:Nat)(x:α):Holds enc (w.alloc (.cells (madeCells #[enc x] n) t)) w.heap.size 0 (XT n x):=by
 intro j k;rw[X0]at k;rw[Yr,Zu];refine⟨?_,rfl⟩;rw[getElem!_pos _ j (by simpa using k),Zi];simp[madeCells,k,Nat.mod_one]
end
def Holds.xor{d:St}(h:Holds enc w b off d){i:Nat}(k:i<d.size){x:BitVec 64}(hx:d[i]! = x)(v:BitVec 64):Holds enc (w.setCell ⟨b,off+i,none⟩ (uZ (u (x ^^^ v)))) b off (bV d i v):=by
 unfold bV;rw[hx];exact Holds.set h k (x ^^^ v)
def bX{d:St}{i j:Nat}{v:BitVec 64}(h:j≠i):(bV d i v)[j]! = d[j]!:=getElem!_set_other d i j _ h
end SP
namespace SP
def mixed:prog.follows .mixedOrders=true:=kR
def bO{w:XA}{i b off:Nat}{d:St}(h:Holds enc w b off d)(k:i<d.size){x:BitVec 64}(hx:d[i]! = x):
 w.cell? ⟨b,off+i,none⟩=some (uZ (u x))/\w.frozen? ⟨b,off+i,none⟩=false:=by
 rw[<-hx];exact h i k
def ret_int{k:IntKind}{a b:Int}(h:a=b):Ending.returned (.int k a)=.returned (.int k b):=by rw[h]
def Co(x:BitVec 64)(k:Nat)(w:XA)(b:k<64):
 cZ 216 #[uZ (u x),iZ k] w λe w'=>e=.returned (uZ (u (rol x k)))/\w'=w:=by
 have c:=VF b;go_enter func216,ntmps216;go_wp2;go_ret;refine⟨ret_int ?_,rfl⟩;rw[JD,Pw,dW];rfl
end SP
namespace SP
def CW{w:XA}{t:Yd}:Holds enc (w.alloc (.cells #[uZ 0,uZ 0,uZ 0,uZ 0,uZ 0] t)) w.heap.size 0 (#[0,0,0,0,0]:St):=by
 have h:=Holds.new (enc:=enc) w t (#[0,0,0,0,0]:St);have e:yEJ enc (#[0,0,0,0,0]:St)=#[uZ 0,uZ 0,uZ 0,uZ 0,uZ 0]:=by simp[enc,u]
 rw[e]at h;exact h
attribute [local go_sem] cY dQ dW
def yI(b off:Nat)(d:St)(w:XA)(hd:d.size=25)(Q:Holds enc w b off d):
 YN prog 210 #[.pointer (some ⟨b,off,none⟩)] w λe w'=>e=.returned (.tuple #[])/\Only b off 25 w w'/\Holds enc w' b off (xE d):=by
 have O:=Holds.lt Q oM;go_enter func210,ntmps210;go_wp2;generalize o:(w.alloc _)=W1;go_loopg [7] 5 (λg s7 wr=>∃k l,k+g=5/\s7=.int .i64 (k:Nat)/\Holds enc wr w.heap.size 0 l/\Only w.heap.size 0 5 W1 wr/\Hid (l=qI d k))
 case atStart =>
  refine⟨0,#[0,0,0,0,0],rfl,rfl,?_,Only.refl _ _ _ _,rfl⟩;rw[<-o];exact CW
 case round =>
  obtain⟨k,l,U,rfl,D,n,q⟩:=hrel;have j:Holds enc wr b off d:=Holds.other (by rw[<-o];exact Holds.below Q ((XR _ _).alloc (XD _) _) O) n oM oM;by_cases y:k<5
  .obtain⟨C,t⟩:∃x,d[k]! = x:=⟨_,rfl⟩
   obtain⟨E,r⟩:∃x,d[k+5]! = x:=⟨_,rfl⟩
   obtain⟨B,u⟩:∃x,d[k+10]! = x:=⟨_,rfl⟩
   obtain⟨A,s⟩:∃x,d[k+15]! = x:=⟨_,rfl⟩
   obtain⟨a,p⟩:∃x,d[k+20]! = x:=⟨_,rfl⟩
   obtain⟨V,v⟩:∃x,l[k]! = x:=⟨_,rfl⟩
   have M:l.size=5:=by rw[q.out,uL]
   obtain⟨I,T⟩:=bO j oM t;obtain⟨c1,f1⟩:=bO j oM r;obtain⟨c2,f2⟩:=bO j oM u;obtain⟨Z,f3⟩:=bO j oM s;obtain⟨c4,N⟩:=bO j oM p;obtain⟨F,H⟩:=bO D oM v;rw[XI]at F H;have G:Hid (ER d k=C ^^^ E ^^^ B ^^^ A ^^^ a):=by rw[<-t,<-r,<-u,<-s,<-p];rfl
   clear t r u s p v j;have X:(k:Int)<5:=oM;have b0:(k:Int)<25:=oM;have b1:(k:Int)+5<25:=oM;have K:(k:Int)+10<25:=oM;have P:(k:Int)+15<25:=oM;have S:(k:Int)+20<25:=oM;have p1:0<=(k:Int)+5:=oM;have p2:0<=(k:Int)+10:=oM;have p3:0<=(k:Int)+15:=oM;have p4:0<=(k:Int)+20:=oM;have W:((k:Int)+5).toNat=k+5:=oM;have L:((k:Int)+10).toNat=k+10:=oM;have e3:((k:Int)+15).toNat=k+15:=oM;have J:((k:Int)+20).toNat=k+20:=oM;have v1:Ya.wrap ((k:Int)+5)=(k:Int)+5:=Zn _ oM;have v2:Ya.wrap ((k:Int)+10)=(k:Int)+10:=Zn _ oM;have Y:Ya.wrap ((k:Int)+15)=(k:Int)+15:=Zn _ oM;have R:Ya.wrap ((k:Int)+20)=(k:Int)+20:=Zn _ oM;go_wp2_with fail
   go_still_tail 35,mixed;go_wp2;go_roundg (gk-1)
   case measure=>omega
   case rel =>
    refine⟨k+1,l.setIfInBounds k (C ^^^ E ^^^ B ^^^ A ^^^ a),oM,by go_num,?_,?_,?_⟩
    .have:=Holds.set D (i:=k) oM (C ^^^ E ^^^ B ^^^ A ^^^ a);rw[XI]at this;exact Holds.drew this
    .exact(n.setCell (Zl _) oM _).drew
    .show _=(qI d k).setIfInBounds k (ER d k);rw[G.out,q.out]
  .have t:k=5:=oM;subst t;have R:Hid (l=qI d 5):=q;have F:Only b off 25 w wr:=by
    rw[<-o]at n;exact Only.of_below n.fresh rfl O
   clear U y q n o;go_wp2;go_loopg [46] 5 (λg s46 A=>∃k p,k+g=5/\s46=.int .i64 (k:Nat)/\Holds enc A b off p/\Only b off 25 wr A/\Hid (p=oP l d k))
   case atStart=>exact⟨0,d,rfl,rfl,j,Only.refl _ _ _ _,rfl⟩
   case round =>
    obtain⟨k,p,U,rfl,P,n,q⟩:=hrel;by_cases y:k<5
    .have M:l.size=5:=by rw[R.out,uL]
     have B:=Holds.other D n oM oM;obtain⟨C,s⟩:∃x,l[(k+4)%5]! = x:=⟨_,rfl⟩
     obtain⟨a,u⟩:∃x,l[(k+1)%5]! = x:=⟨_,rfl⟩
     obtain⟨I,T⟩:=bO B oM s;obtain⟨c1,f1⟩:=bO B oM u;rw[XI]at I c1;have W:Hid (SN l k=C ^^^ rol a 1):=by rw[<-s,<-u];rfl
     clear s u T f1;have X:(k:Int)<5:=oM;go_wp2_with fail
     go_quiet ((go_at_call 216;exact Calls.quiet_of_same (Co _ 1 _ dC)));clear I c1;go_wp2;have Z:=n.drewN nq;have H:=Holds.drewN P nq;have E:p.size=25:=by rw[q.out,rC,hd]
     go_loopg [6] 5 (λg s6 A=>∃m r,m+g=5/\s6=.int .i64 ((k+5*m:Nat):Int)/\Holds enc A b off r/\Only b off 25 wr A/\Hid (r=mU (C ^^^ rol a 1) k p m))
     case atStart=>exact⟨0,p,rfl,rfl,H,(Only.refl _ _ _ _).drewN _,rfl⟩
     case round =>
      obtain⟨m,r,hm,rfl,L,v,K⟩:=hrel;by_cases N:m<5
      .have V:r.size=25:=by rw[K.out,rV,E]
       obtain⟨z,G⟩:∃x,r[k+5*m]! = x:=⟨_,rfl⟩
       obtain⟨c,f⟩:=bO L oM G;have Y:Hid (r[k+5*m]! = z):=G;clear G;have r1:((k+5*m:Nat):Int)<25:=oM;generalize J:k+5*m=i at *;have S:Hid (k+5*m=i):=J;clear J;go_wp2_with fail
       go_still_tail 9,mixed;go_wp2;go_roundg (gk-1)
       case measure=>omega
       case rel =>
        refine⟨m+1,r.setIfInBounds i (z ^^^ (C ^^^ rol a 1)),oM,?_,?_,?_,?_⟩
        .rw[<-S.out];go_num
        .exact Holds.drew (Holds.set L oM _)
        .exact(v.setCell (yBK _ _) oM _).drew
        .show _=bV (mU (C ^^^ rol a 1) k p m) (k+5*m) (C ^^^ rol a 1);rw[<-K.out,S.out,<-Y.out];rfl
      .have G:m=5:=oM;subst G;have r1:(25:Int)<=((k+5*5:Nat):Int):=oM;generalize J:k+5*5=i at *;go_wp2;go_roundg (4-k)
       case measure=>omega
       case rel =>
        refine⟨k+1,r,oM,by go_num,L,n.trans v,?_⟩;show _=mU (SN l k) k (oP l d k) 5;rw[<-q.out,W.out];exact K
    .have t:k=5:=oM;subst t;go_wp2
     go_end0
     refine⟨rfl,F.trans n,?_⟩;have:xE d=p:=by rw[q.out,R.out];rfl
     rw[this];exact P
end SP
namespace SP
attribute [local go_sem] cY dQ dW
def Ke{t:Nat}(h:t<24):(wrap64 ((wrap64 (((t:Int)+1)*((t:Int)+2))).tdiv 2)).tmod 64=(offs t:Int):=by
 have H:∀j:Fin 24,(wrap64 ((wrap64 (((j.val:Int)+1)*((j.val:Int)+2))).tdiv 2)).tmod 64=(offs j.val:Int):=dK;exact H ⟨t,h⟩
def vM(b off:Nat)(d:St)(w:XA)(hd:d.size=25)(A:Holds enc w b off d):
 cZ 211 #[oZ b off] w λe w'=>e=.returned (.tuple #[])/\Only b off 25 w w'/\Holds enc w' b off (As d):=by
 obtain⟨L,l⟩:∃x,d[1]! = x:=⟨_,rfl⟩
 obtain⟨c1,f1⟩:=bO A oM l;go_enter func211,ntmps211;go_wp2;go_loopg [2,3,4,12] 24 (λg sx G sm st wr=>∃t T,t+g=24/\st=iZ (t:Nat)/\sx=iZ (T.x:Nat)/\G=iZ (T.y:Nat)/\sm=uZ (u T.m)/\Holds enc wr b off T.d/\Only b off 25 w wr/\Hid (T=vN d t))
 case atStart=>exact⟨0,vN d 0,rfl,rfl,rfl,rfl,by rw[<-l];rfl,A,Only.refl _ _ _ _,rfl⟩
 case round =>
  obtain⟨t,⟨x,y,m,C⟩,J,rfl,rfl,rfl,rfl,p,D,s⟩:=hrel;have j:=FC hd t;rw[<-s.out]at j;obtain⟨hx,I,E⟩:=j;dsimp only at hx I E p;by_cases r:t<24
  .obtain⟨i,F⟩:=vH (y+5*((2*x+3*y)%5));obtain⟨z,a⟩:∃z,C[i]! = z:=⟨_,rfl⟩
   obtain⟨c,f⟩:=bO p oM a;have H:=mk1 (a);have B:=mk1 (F);go_wp2_with fail
   rw[Ke r];apply(Co m (offs t) _ (Y8 _ dC)).mono;rintro e w' ⟨rfl,rfl⟩;go_wp2_with fail
   obtain⟨q,v⟩:=vH ((2*x+3*y)%5);have o:(2*(x:Int)+3*(y:Int))%5=(q:Int):=oM;rw[o];have k:=mk1 (v);have K:((y:Int)+5*(q:Int)).toNat=i:=by have:=B;have:=k;omega
   go_region
   go_wp2;go_roundg (gk-1)
   case measure=>omega
   case rel =>
    refine⟨t+1,⟨y,q,z,C.setIfInBounds i (rol m (offs t))⟩,oM,by go_num,rfl,rfl,rfl,?_,?_,?_⟩
    .exact Holds.drew (Holds.set p oM _)
    .exact(D.setCell (yBK _ _) oM _).drew
    .show _=DK t (vN d t);rw[<-s.out];simp only[DK,k.out];have e:y+5*q=i:=by have:=B;have:=k;omega
     rw[e,H.out]
  .have k:t=24:=oM;subst k;go_wp2
   go_end0
   refine⟨rfl,D,?_⟩;show Holds enc _ b off (vN d 24).d;rw[<-s.out];exact p
end SP
namespace SP
attribute [local go_sem] cY dQ dW qY
def CN(b off:Nat)(d:St)(w:XA)(hd:d.size=25)(hH:Holds enc w b off d):
 YN prog 212 #[.pointer (some ⟨b,off,none⟩)] w λe w'=>e=.returned (.tuple #[])/\Only b off 25 w w'/\Holds enc w' b off (chi d):=by
 go_enter func212,ntmps212;go_wp2;go_loopg [2] 5 (λg si wr=>∃k j,k+g=5/\si=.int .i64 ((5*k:Nat):Int)/\Holds enc wr b off j/\Only b off 25 w wr/\Hid (j=zF d k))
 case atStart=>exact⟨0,d,rfl,rfl,hH,Only.refl _ _ _ _,rfl⟩
 case round =>
  obtain⟨k,j,hk,rfl,a,hO,HE⟩:=hrel;have hs:j.size=25:=by rw[HE.out,zE,hd]
  by_cases ha:k<5
  .obtain⟨i,hi⟩:=vH (5*k);rw[hi];have Hi:Hid (5*k=i):=hi;obtain⟨v,Q⟩:∃x,j[i]! = x:=⟨_,rfl⟩
   obtain⟨s,N⟩:∃x,j[i+1]! = x:=⟨_,rfl⟩
   obtain⟨r,R⟩:∃x,j[i+2]! = x:=⟨_,rfl⟩
   obtain⟨p,P⟩:∃x,j[i+3]! = x:=⟨_,rfl⟩
   obtain⟨m,H⟩:∃x,j[i+4]! = x:=⟨_,rfl⟩
   obtain⟨c0,f0⟩:=bO a oM Q;obtain⟨c1,f1⟩:=bO a oM N;obtain⟨c2,f2⟩:=bO a oM R;obtain⟨c3,f3⟩:=bO a oM P;obtain⟨c4,f4⟩:=bO a oM H;have I:Hid (j[i]! = v):=Q;have q:Hid (j[i+1]! = s):=N;have l:Hid (j[i+2]! = r):=R;have f:Hid (j[i+3]! = p):=P;have c:Hid (j[i+4]! = m):=H;have Q0:=I;have Q1:=q;have Q2:=l;have Q3:=f;have Q4:=c;have b1:(i:Int)+1<25:=oM;have p1:0<=(i:Int)+1:=oM;have e1:((i:Int)+1).toNat=i+1:=oM;have v1:Ya.wrap ((i:Int)+1)=(i:Int)+1:=Zn _ oM;have V:(i:Int)+2<25:=oM;have p2:0<=(i:Int)+2:=oM;have W:((i:Int)+2).toNat=i+2:=oM;have v2:Ya.wrap ((i:Int)+2)=(i:Int)+2:=Zn _ oM;have b3:(i:Int)+3<25:=oM;have p3:0<=(i:Int)+3:=oM;have e3:((i:Int)+3).toNat=i+3:=oM;have v3:Ya.wrap ((i:Int)+3)=(i:Int)+3:=Zn _ oM;have b4:(i:Int)+4<25:=oM;have p4:0<=(i:Int)+4:=oM;have e4:((i:Int)+4).toNat=i+4:=oM;have v4:Ya.wrap ((i:Int)+4)=(i:Int)+4:=Zn _ oM;go_wp2_with fail
   go_quiet (fail);clear c1 c2 c3 c4 f1 f2 f3 f4 b1 p1 e1 v1 V p2 W v2 b3 p3 e3 v3 b4 p4 e4 v4;go_wp2_with fail
   go_region
   go_wp2_with fail
   generalize z:yBt _ _ _=W0;have h7:(bV j i (~~~s &&& r)).size=25:=by rw[dH];omega
   have J:Holds enc W0 b off (bV j i (~~~s &&& r)):=by rw[<-z];exact Holds.xor (Holds.drewN a _) oM I _
   have T:Only b off 25 w W0:=by rw[<-z];exact(hO.drewN _).setCell (o:=off+i) oM oM _
   generalize n:bV j i (~~~s &&& r)=u at *;have h5:Hid (bV j i (~~~s &&& r)=u):=n;have q:Hid (u[i+1]! = s):=by show _=_;rw[<-n,bX oM];exact q
   have l:Hid (u[i+2]! = r):=by show _=_;rw[<-n,bX oM];exact l
   have f:Hid (u[i+3]! = p):=by show _=_;rw[<-n,bX oM];exact f
   have c:Hid (u[i+4]! = m):=by show _=_;rw[<-n,bX oM];exact c
   obtain⟨c1,f1⟩:=bO J oM q;clear n z c0 f0;have b1:(i:Int)+1<25:=oM;have p1:0<=(i:Int)+1:=oM;have e1:((i:Int)+1).toNat=i+1:=oM;have v1:Ya.wrap ((i:Int)+1)=(i:Int)+1:=Zn _ oM;go_region
   go_wp2_with fail
   generalize O:yBt _ _ _=W1;have hb:(bV u (i+1) (~~~r &&& p)).size=25:=by rw[dH];omega
   have G:Holds enc W1 b off (bV u (i+1) (~~~r &&& p)):=by rw[<-O];exact Holds.xor J oM q _
   have h0:Only b off 25 w W1:=by rw[<-O];exact(T).setCell (o:=off+(i+1)) oM oM _
   generalize t:bV u (i+1) (~~~r &&& p)=y at *;have h1:Hid (bV u (i+1) (~~~r &&& p)=y):=t;have l:Hid (y[i+2]! = r):=by show _=_;rw[<-t,bX oM];exact l
   have f:Hid (y[i+3]! = p):=by show _=_;rw[<-t,bX oM];exact f
   have c:Hid (y[i+4]! = m):=by show _=_;rw[<-t,bX oM];exact c
   obtain⟨c2,f2⟩:=bO G oM l;clear b1 p1 e1 v1;have V:(i:Int)+2<25:=oM;have p2:0<=(i:Int)+2:=oM;have W:((i:Int)+2).toNat=i+2:=oM;have v2:Ya.wrap ((i:Int)+2)=(i:Int)+2:=Zn _ oM;go_region
   go_wp2_with fail
   generalize E:yBt _ _ _=W2;have h9:(bV y (i+2) (~~~p &&& m)).size=25:=by rw[dH];omega
   have K:Holds enc W2 b off (bV y (i+2) (~~~p &&& m)):=by rw[<-E];exact Holds.xor G oM l _
   have X:Only b off 25 w W2:=by rw[<-E];exact(h0).setCell (o:=off+(i+2)) oM oM _
   generalize B:bV y (i+2) (~~~p &&& m)=A at *;have S:Hid (bV y (i+2) (~~~p &&& m)=A):=B;have f:Hid (A[i+3]! = p):=by show _=_;rw[<-B,bX oM];exact f
   have c:Hid (A[i+4]! = m):=by show _=_;rw[<-B,bX oM];exact c
   obtain⟨c3,f3⟩:=bO K oM f;clear V p2 W v2;have b3:(i:Int)+3<25:=oM;have p3:0<=(i:Int)+3:=oM;have e3:((i:Int)+3).toNat=i+3:=oM;have v3:Ya.wrap ((i:Int)+3)=(i:Int)+3:=Zn _ oM;go_region
   go_wp2_with fail
   generalize D:yBt _ _ _=W3;have h8:(bV A (i+3) (~~~m &&& v)).size=25:=by rw[dH];omega
   have L:Holds enc W3 b off (bV A (i+3) (~~~m &&& v)):=by rw[<-D];exact Holds.xor K oM f _
   have h3:Only b off 25 w W3:=by rw[<-D];exact(X).setCell (o:=off+(i+3)) oM oM _
   generalize F:bV A (i+3) (~~~m &&& v)=C at *;have Y:Hid (bV A (i+3) (~~~m &&& v)=C):=F;have c:Hid (C[i+4]! = m):=by show _=_;rw[<-F,bX oM];exact c
   obtain⟨c4,f4⟩:=bO L oM c;clear b3 p3 e3 v3;have b4:(i:Int)+4<25:=oM;have p4:0<=(i:Int)+4:=oM;have e4:((i:Int)+4).toNat=i+4:=oM;have v4:Ya.wrap ((i:Int)+4)=(i:Int)+4:=Zn _ oM;go_region
   go_wp2;generalize M:yBt _ _ _=W4;have h6:(bV C (i+4) (~~~v &&& s)).size=25:=by rw[dH];omega
   have h4:Holds enc W4 b off (bV C (i+4) (~~~v &&& s)):=by rw[<-M];exact Holds.xor L oM c _
   have Z:Only b off 25 w W4:=by rw[<-M];exact(h3).setCell (o:=off+(i+4)) oM oM _
   generalize U:bV C (i+4) (~~~v &&& s)=d4 at *;have h2:Hid (bV C (i+4) (~~~v &&& s)=d4):=U;go_roundg (gk-1)
   case measure=>omega
   case rel =>
    refine⟨k+1,d4,oM,?_,?_,?_,?_⟩
    .rw[<-Hi.out];go_num
    .exact h4
    .exact Z.drewN 4
    .show d4=rowAt (zF d k) (5*k);rw[<-HE.out,Hi.out];unfold rowAt;rw[Q0.out,Q1.out,Q2.out,Q3.out,Q4.out,h5.out,h1.out,S.out,Y.out,h2.out]
  .have c:k=5:=oM;subst c;go_wp2
   go_end0
   refine⟨rfl,hO,?_⟩;show Holds enc _ b off (zF d 5);rw[<-HE.out];exact a
end SP
namespace SP
attribute [local go_sem] cY dQ dW qF
def Ih{j:Nat}(k:j<7):∃p:Nat,wrap64 (wrap64 ((2:Int)^j)-1)=(p:Int)/\p<=63/\Hid (2^j-1=p):=by
 have H:∀j:Fin 7,wrap64 (wrap64 ((2:Int)^j.val)-1)=((2^j.val-1:Nat):Int)/\2^j.val-1<=63:=dK;exact⟨_,(H ⟨j,k⟩).1,(H ⟨j,k⟩).2,rfl⟩
def rG(r:Nat)(w:XA)(m:r<256):
 cZ 213 #[iZ r] w λe w'=>e=.returned (.tuple #[uZ (u (rcC r)),iZ (rcN r:Int)])/\w'=w:=by
 go_enter func213,ntmps213;go_wp2
 go_loop [0,2,6] (λs0 s2 s6=>∃j:Nat,j<=7/\∃(c:BitVec 64) (q:Nat),s6=iZ j/\s2=uZ (u c)/\s0=iZ q/\q<256/\Hid (xT r j=(c,q))) (λ_ _ s6=>7-(intOf s6).toNat)
 case atStart=>exact⟨0,dC,0,r,rfl,rfl,rfl,m,rfl⟩
 case round =>
  obtain⟨j,x,c,q,rfl,rfl,rfl,f,l⟩:=hrel;by_cases g:j<7
  .have v:=Rl f;have a2:=Rj f;obtain⟨p,t,y,n⟩:=Ih g;have i:Hid (xT r (j+1)=(c ||| yAX 64 (q%2) <<< p,xU q)):=by
    show((xT r j).1 ||| yAX 64 ((xT r j).2%2) <<< (2^j-1),xU (xT r j).2)=_;rw[l.out,n.out]
   have s:=JD (yAX 64 (q%2)) p;have k:=Cu f;by_cases b:255<2*q
   .have d:Hid (xU q=2*q ^^^ 369):=yEX b;rw[d.out]at k;generalize 2*q ^^^ 369=o at *;go_wp2
    go_round
    case rel=>exact⟨j+1,oM,_,o,by go_num,rfl,rfl,k,by rw[i.out,d.out];rfl⟩
    case measure=>simp[intOf];omega
   .have d:Hid (xU q=2*q):=yEY b;go_wp2
    go_round
    case rel=>exact⟨j+1,oM,_,2*q,by go_num,rfl,by go_num,oM,by rw[i.out,d.out];rfl⟩
    case measure=>simp[intOf];omega
  .have k:j=7:=oM;subst k;go_wp2
   go_ret2
   unfold rcC rcN;rw[l.out];exact⟨rfl,rfl⟩
def uP(b off:Nat)(d:St)(w:XA)(hd:d.size=25)(a:Holds enc w b off d):
 cZ 192 #[oZ b off] w λe w'=>e=.returned (.tuple #[])/\Only b off 25 w w'/\Holds enc w' b off (perm d):=by
 go_enter func192,ntmps192;go_wp2;go_loopg [2,3,4] 24 (λg sc B I wr=>∃(k:Nat) (c:BitVec 64) (f:St),k+g=24/\I=iZ k/\sc=uZ (u c)/\B=iZ (Cv k:Nat)/\Holds enc wr b off f/\Only b off 25 w wr/\Hid (f=tI d k))
 case atStart=>exact⟨0,0,d,rfl,rfl,rfl,rfl,a,Only.refl _ _ _ _,rfl⟩
 case round =>
  obtain⟨k,c,f,M,rfl,rfl,rfl,y,z,v⟩:=hrel;have l:f.size=25:=by rw[v.out,uQ hd]
  by_cases G:k<24
  .have F:(k:Int)<24:=oM;go_wp2_with fail
   apply(yI b off f _ l y).mono;rintro e K ⟨rfl,q,p⟩;go_wp2_with fail
   apply(vM b off _ _ (by rw[mF,l]) p).mono;rintro e O ⟨rfl,t,s⟩;go_wp2_with fail
   apply(CN b off _ _ (qO (by rw[mF,l])) s).mono;rintro e L ⟨rfl,m,j⟩;have E:Hid (Cv (k+1)=rcN (Cv k)):=rfl;have H:Hid (tI d (k+1)=yM (tI d k) (rcC (Cv k))):=rfl;have n:=NS k;generalize Cv k=r at *;go_wp2_with fail
   apply(rG r _ n).mono;rintro e N ⟨rfl,rfl⟩;have A:(chi (As (xE f))).size=25:=by rw[Db,qO (by rw[mF,l])]
   obtain⟨x,hx⟩:∃x,(chi (As (xE f)))[0]! = x:=⟨_,rfl⟩
   obtain⟨J,D⟩:=bO j oM hx;rw[yAl]at J D;have C:Hid ((chi (As (xE f)))[0]! = x):=hx;clear hx;go_wp2_with fail
   go_region
   go_wp2;go_roundg (gk-1)
   case measure=>omega
   case rel =>
    refine⟨k+1,rcC r,yM f (rcC r),oM,by go_num,rfl,by rw[E.out],?_,?_,?_⟩
    .exact Holds.drew (Holds.xor (i:=0) j oM C (rcC r))
    .exact((((z.trans q).trans t).trans m).setCell (o:=off) oM oM _).drew
    .rw[H.out,v.out];rfl
  .have j:k=24:=oM;subst j;go_wp2
   go_end0
   refine⟨rfl,z,?_⟩;unfold perm;rw[<-v.out];exact y
end SP
namespace SP
attribute [local go_sem] cY dQ dW qF Fu
def G7{w:XA}{i b off:Nat}{d:Bs}(h:Holds encB w b off d)(k:i<d.size){x:UInt8}(hx:d[i]! = x):
 w.cell? ⟨b,off+i,none⟩=some (.int .u8 (ub x))/\w.frozen? ⟨b,off+i,none⟩=false:=by
 rw[<-hx];exact h i k
def word_any(f g o len cap:Nat)(b:Bs)(w:XA)(j:Holds encB w f g b)(r:8<=len)(ho:o+8<=b.size)(q:len<=4611686018427387904):
 cZ 209 #[qZ f (g+o) len cap] w λe w'=>e=.returned (uZ (u (wordOf b o)))/\w'=w:=by
 go_enter func209,ntmps209;go_wp2
 go_loop [3,5] (λs3 s5=>∃(k:Nat) (c:BitVec 64),k<=8/\s5=iZ k/\s3=uZ (u c)/\Hid (wX b o k=c)) (λ_ s5=>8-(intOf s5).toNat)
 case atStart=>exact⟨0,0,dC,rfl,rfl,rfl⟩
 case round =>
  obtain⟨k,c,s,rfl,rfl,i⟩:=hrel;by_cases m:k<8
  .obtain⟨x,hx⟩:∃x,b[o+k]! = x:=⟨_,rfl⟩
   obtain⟨n,l⟩:=G7 j oM hx;rw[<-ZB]at n;have d:Hid (wX b o (k+1)=c ||| wide x <<< (8*k)):=by
    show wX b o k ||| wide b[o+k]! <<< (8*k)=_
    rw[i.out,hx]
   clear hx l;have p:=JD (wide x) (8*k);have t:(k:Int)<(len:Int):=oM;go_wp2
   go_round
   case rel=>exact⟨k+1,_,oM,by go_num,rfl,d⟩
   case measure=>simp[intOf];omega
  .have d:k=8:=oM;subst d;go_wp2;go_ret;unfold wordOf;rw[i.out];exact⟨rfl,rfl⟩
def Oq(b off f i len cap:Nat)(c:Bs)(d:St)(w:XA)(hd:d.size=25)(u:Holds enc w b off d)(r:Holds encB w f i c)(B:c.size=len)(s:len<=200)(t:len<=cap)
 (j:f≠b\/i+len<=off\/off+25<=i) :
 YN prog 191 #[.pointer (some ⟨b,off,none⟩),.slice (some ⟨f,i,none⟩) len cap] w λe w'=>e=.returned (.tuple #[])/\Only b off 25 w w'/\Holds enc w' b off (lN c d (len/8)):=by
 go_enter func191,ntmps191;go_wp2;go_loopg [8] (len/8) (λg s8 wr=>∃(k:Nat) (j:St),k+g=len/8/\s8=.int .i64 k/\Holds enc wr b off j/\Only b off 25 w wr/\Hid (j=lN c d k))
 case atStart=>exact⟨0,d,oM,rfl,u,Only.refl _ _ _ _,rfl⟩
 case round =>
  obtain⟨k,j,F,rfl,p,n,q⟩:=hrel;have A:j.size=25:=by rw[q.out,mR,hd]
  by_cases y:k<len/8
  .have l:Holds encB wr f i c:=by
    by_cases m:f=b
    .subst m;exact Holds.same r n oM
    .exact Holds.other r n m oM
   obtain⟨x,hx⟩:∃x,j[k]! = x:=⟨_,rfl⟩
   obtain⟨J,D⟩:=bO p oM hx;have m:Hid (j[k]! = x):=hx;clear hx;have C:(k:Int)<25:=oM;have I:(0:Int)<=(k:Int)*8:=oM;have E:(k:Int)*8<=(len:Int):=oM;have G:((k:Int)*8).toNat=8*k:=oM;have s1:Ya.wrap ((k:Int)*8)=(k:Int)*8:=Zn _ oM;have lt:(k:Int)<(len:Int)/8:=oM;go_wp2_with fail
   have z:(cap=8*k)=False:=eq_false oM;have a:Hid (Holds encB wr.drew f i c):=Holds.drew l;have v:Hid (8*k+8<=c.size):=by show _<=_;omega
   clear l;go_region_with (go_at_call 209;apply(word_any f i (8*k) (len-8*k) (cap-8*k) c _ a oM v oM).mono;rintro e H ⟨rfl,rfl⟩)
   all_goals
    go_wp2;go_roundg (gk-1)
    case measure=>omega
    case rel =>
     refine⟨k+1,bV j k (wordOf c (8*k)),oM,by go_num,?_,?_,?_⟩
     .exact Holds.drew (Holds.xor p oM m _)
     .exact(n.setCell (o:=off+k) oM oM _).drew
     .rw[q.out];rfl
  .have l:k=len/8:=oM;have lt:(len:Int)/8<=(k:Int):=oM;go_wp2
   go_end0
   refine⟨rfl,n,?_⟩;rw[<-l,<-q.out];exact p
def slice22:prog.underlying 23=some (.slice 5):=kR
def info5:(prog.info? 5).map (λi=>(i.zero,i.size,i.bytes))=some (some (.int .u8 0),1,1):=kR
attribute [local go_sem] PP
def tX(b off n:Nat)(d:St)(w:XA)(hd:d.size=25)(q:Holds enc w b off d)(B:n<=200):
 YN prog 96 #[.pointer (some ⟨b,off,none⟩),.int .i64 n] w λe w'=>e=.returned (.slice (some ⟨w.heap.size,0,none⟩) n n)/\Below w.heap.size w w'/\Holds encB w' w.heap.size 0 (front d n):=by
 have s:=Holds.lt q oM;have r:=run_make_row' (P:=prog) 23 5 (.int .u8 0) 1 slice22 info5 rfl .i64 .i64 n oM oM;go_enter func96,ntmps96;go_wp2;generalize c:(w.alloc _)=y;go_loopg [11] n (λg s11 wr=>∃(k:Nat) (f:Bs),k+g=n/\s11=.int .i64 k/\Holds encB wr w.heap.size 0 f/\Only w.heap.size 0 n y wr/\Hid (f=iH d n k))
 case atStart =>
  refine⟨0,_,oM,rfl,?_,Only.refl _ _ _ _,rfl⟩;rw[<-c];exact Holds.made (enc:=encB) w 5 n 0
 case round =>
  obtain⟨k,f,A,rfl,j,l,p⟩:=hrel;have z:f.size=n:=by rw[p.out,mV]
  have t:Holds enc wr b off d:=Holds.other (by rw[<-c];exact Holds.below q ((XR _ _).alloc (XD _) _) s) l oM oM;by_cases u:k<n
  .obtain⟨x,hx⟩:∃x,d[k/8]! = x:=⟨_,rfl⟩
   obtain⟨C,a⟩:=bO t oM hx;obtain⟨c1,f1⟩:=j k oM;rw[XI]at c1 f1;have m:Hid (byteOf d k=low (x >>> (8*(k%8)))):=by show low _=_;rw[hx]
   have v:=Pw x (8*(k%8));go_wp2;go_roundg (gk-1)
   case measure=>omega
   case rel =>
    refine⟨k+1,f.setIfInBounds k (low (x >>> (8*(k%8)))),oM,by go_num,?_,?_,?_⟩
    .have:=Holds.set j (i:=k) oM (low (x >>> (8*(k%8))));rw[XI]at this;exact this
    .exact l.setCell (o:=k) oM oM _
    .show _=(iH d n k).setIfInBounds k (byteOf d k);rw[m.out,p.out]
  .have m:k=n:=oM;go_wp2;go_ret;refine⟨rfl,?_,?_⟩
   .rw[<-c]at l;exact l.fresh
   .unfold front;rw[p.out,m]at j;exact j
end SP
namespace SP
structure Of where
 x:Nat
 y:Nat
 o:Array Nat
def zx(x:BitVec 64):0 ^^^ x=x:=BitVec.zero_xor
end SP
namespace SP
open Go.Sort
def wV:St:=XT 25 0
def Ht{j:Nat}(h:j<25):wV[j]! = 0:=by
 have k:j<(XT 25 (0:BitVec 64)).size:=by rw[X0];exact h
 unfold wV;rw[getElem!_pos (XT 25 (0:BitVec 64)) j k,Zi]
end SP
namespace SP
def fill(i:Nat):UInt8:=XS (i%251) ^^^ 165
def lentTo(s:ByteArray):Nat->Bs
 | 0=>s.data++XT 160 0
 | k+1=>(lentTo s k).setIfInBounds (s.size+k) (fill (s.size+k))
def lent(s:ByteArray):Bs:=lentTo s 160
variable {w w1:XA}{b o n:Nat}
def heap_setCells(b:Nat){k:Nat}(c:k≠b):∀(vs:List XB) (p:Nat) (w:XA),(w.setCells b p vs).heap[k]? = w.heap[k]?
 | [],_,_=>rfl
 | v :: r,p,w=>by rw[World.setCells,heap_setCells b c r (p+1) _,yB6 _ _ _ _ c]
def Only.setCells(h:Only b o n w w1)(vs:List XB)(p:Nat)(g:o<=p)(f:p+vs.length<=o+n):Only b o n w (w1.setCells b p vs):=by
 have c:=below_setCells (B:=0) (b:=b) (Zl _) vs p w1 (XR 0 w1);exact h.trans ⟨c.os,c.tape,c.output,c.size,λk _ d=>heap_setCells b d vs p w1,
  λq e=>yCK b vs p w1 ⟨b,q,none⟩ (λ_ _=>by simp only;omega),λq=>yCY b vs p w1 _⟩
def Holds.setCells{c r:Bs}(h:Holds encB w b o c)(vs:List XB)(p:Nat)(g:r.size=c.size)(l:p+vs.length<=c.size)
 (f:∀j (d:j<vs.length),vs[j]=encB r[p+j]!) (k:∀j,j<c.size->j<p\/p+vs.length<=j->r[j]! = c[j]!):Holds encB (w.setCells b (o+p) vs) b o r:=by
 intro j d;rw[g]at d;rw[yCY];refine⟨?_,(h j d).2⟩;by_cases e:j<p\/p+vs.length<=j
 .rw[yCK b vs (o+p) w ⟨b,o+j,none⟩ (λ_ _=>by simp only;omega),k j d e];exact(h j d).1
 .have k:j-p<vs.length:=oM;have:=World.cell?_setCells_in b vs (o+p) w (λi m=>by
   have:=(h (p+i) oM).1;rw[<-ZB]at this;rw[this];rfl) (j-p) k
  rw[show o+p+(j-p)=o+j by omega]at this;rw[this,f (j-p) k,show p+(j-p)=j by omega]
def app_front(a r:Bs)(j:Nat)(k:j<a.size):(a++r)[j]! = a[j]:=by
 have h:j<(a++r).size:=by rw[Yl];omega
 rw[getElem!_pos (a++r) j h,yBq k]
def app_back(a r:Bs)(j:Nat)(b:a.size<=j)(c:j<a.size+r.size):(a++r)[j]! = r[j-a.size]!:=by
 have h:j<(a++r).size:=by rw[Yl];omega
 have k:j-a.size<r.size:=oM;rw[getElem!_pos (a++r) j h,yCD b,getElem!_pos r (j-a.size) k]
def rep_at(n j:Nat)(h:j<n):(XT n (0:UInt8))[j]! = 0:=by
 have k:j<(XT n (0:UInt8)).size:=by rw[X0];exact h
 rw[getElem!_pos (XT n (0:UInt8)) j k,Zi]
def size_of5(P:Program)(e:Yd)(h:(P.info? e).map (·.size)=some 1):∀w,(yCP e).run P w=.ok 1 w:=by
 intro w;cases k:P.info? e with
 | none=>simp[k]at h
 | some i =>
  simp[k]at h;simp[yCP,typeInfo,k,h]
def conv_str(P:Program)(src k e:Yd)(l:P.underlying src=some (.slice e))(i:P.underlying e=some (.int .u8))(hd:P.underlying k=some .string)
 (w:XA) (b o n cap:Nat) (c:Bs) (p:Holds encB w b o c) (q:c.size=n):(convert src k (qZ b o n cap)).run P w=.ok (.string ⟨c⟩) w:=by
 have h:=run_convert_bytes_back (P:=P) w src k e ⟨b,o,none⟩ cap c.toList l i hd (λj r=>by
  have d:j<c.size:=by simpa using r
  have g:=(p j d).1;rw[getElem!_pos c j d]at g;have m:(⟨b,o,none⟩:Y0).add j=⟨b,o+j,none⟩:=by
   unfold yBT;by_cases f:j=0
   .subst f;rfl
   .rw[yEY f]
  rw[m,g];simp[encB,ub])
 simpa[q]using h
end SP
namespace SP
def int5:prog.underlying 5=some (.int .u8):=kR
def str9:prog.underlying 9=some .string:=kR
def size5:∀w,(yCP 5).run prog w=.ok 1 w:=size_of5 prog 5 kR
end SP
namespace SP
open Go.Sort
def low_bit(v:BitVec 64)(i:Nat)(h:i<8):(low v).toNat.testBit i=v.getLsbD i:=by
 unfold low;rw[yBj,Nat.testBit_mod_two_pow,BitVec.getLsbD];simp[h]
def EI{n k j:Nat}(d:St)(e:k<=n)(c:j<n):(iH d n k)[j]! = if j<k then byteOf d j else 0:=by
 induction k with
 | zero =>
  have b:j<(XT n (0:UInt8)).size:=by rw[X0];exact c
  rw[iH,getElem!_pos (XT n (0:UInt8)) j b,Zi,yEY oM]
 | succ k ih =>
  rw[iH];by_cases h:j=k
  .subst h;rw[getElem!_set_same _ _ _ (by rw[mV];exact c),yEX oM]
  .rw[getElem!_set_other _ _ _ _ h,ih oM];by_cases b:j<k
   .rw[yEX b,yEX oM]
   .rw[yEY b,yEY oM]
def Lt{d:St}{n j:Nat}(k:j<n):(front d n)[j]! = byteOf d j:=by
 unfold front;rw[EI d (XD _) k,yEX k]
/-! ### The sponge, byte by byte -/
structure Sp where
  d : St
  p : Bs
  h : Nat
structure Ok(S:Sp):Prop where
 d25:S.d.size=25
 p136:S.p.size=136
 hlt:S.h<136
def kD(S:Sp):Sp:={ d:=perm (lN S.p S.d 17),p:=S.p,h:=0 }
def Ee(S:Sp)(x:UInt8):Sp:=
 if S.h+1=136 then kD { d:=S.d,p:=S.p.setIfInBounds S.h x,h:=S.h } else { d:=S.d,p:=S.p.setIfInBounds S.h x,h:=S.h+1 }
def gB(S:Sp)(l:List UInt8):Sp:=l.foldl Ee S
def splice(p:Bs):Nat->List UInt8->Bs
 | _,[]=>p
 | i,x :: r=>splice (p.setIfInBounds i x) (i+1) r
def mG(S:Sp)(a b:List UInt8):gB S (a++b)=gB (gB S a) b:=List.foldl_append
def dF{p:Bs}{i:Nat}{l:List UInt8}:(splice p i l).size=p.size:=by
 induction l generalizing p i with
 | nil=>rfl
 | cons x r ih=>rw[splice,ih,YR]
def kY(p:Bs)(i:Nat)(l:List UInt8)(j:Nat)(c:i+l.length<=p.size)(b:j<p.size):(splice p i l)[j]! = if i<=j/\j<i+l.length then l[j-i]! else p[j]!:=by
 induction l generalizing p i with
 | nil=>simp[splice];omega
 | cons x r ih =>
  simp only[Yx]at c;rw[splice,ih _ _ (by rw[YR];omega) (by rw[YR];exact b)];by_cases h:j=i
  .subst h;rw[yEY oM,getElem!_set_same _ _ _ b,yEX (by simp),yBi];rfl
  .rw[getElem!_set_other _ _ _ _ h];by_cases k:i+1<=j/\j<i+1+r.length
   .rw[yEX k,yEX (by simp;omega),show j-i=(j-(i+1))+1 by omega];rfl
   .rw[yEY k,yEY (by simp;omega)]
def oR(d:St)(p:Bs)(h:Nat):kD ⟨d,p,h⟩=⟨perm (lN p d 17),p,0⟩:=by unfold kD;rfl
def Ny(S:Sp):(kD S).d=perm (lN S.p S.d 17):=by
 obtain⟨d,p,h⟩:=S;rw[oR]
def Nv(S:Sp):(kD S).p=S.p:=by
 obtain⟨d,p,h⟩:=S;rw[oR]
def Nx(S:Sp):(kD S).h=0:=by
 obtain⟨d,p,h⟩:=S;rw[oR]
def Nu{S:Sp}(k:S.d.size=25)(b:S.p.size=136):Ok (kD S):=by
 have hd:(lN S.p S.d 17).size=25:=by rw[mR,k]
 refine⟨?_,by rw[Nv,b],?_⟩
 .rw[Ny];exact tH hd
 .rw[Nx];decide
def NU{x:UInt8}{S:Sp}(h:Ok S):Ok (Ee S x):=by
 have:=h.hlt;unfold Ee;by_cases e:S.h+1=136
 .rw[yEX e];exact Nu h.d25 (by show(S.p.setIfInBounds _ _).size=136;rw[YR];exact h.p136)
 .rw[yEY e];exact⟨h.d25,by show(S.p.setIfInBounds _ _).size=136;rw[YR];exact h.p136,by show S.h+1<136;omega⟩
def jL{l:List UInt8}{S:Sp}(h:Ok S):Ok (gB S l):=by
 induction l generalizing S with
 | nil=>exact h
 | cons x r ih=>exact ih (NU h)
def uK{l:List UInt8}(S:Sp)(c:l≠[])(k:S.h+l.length<=136):
 gB S l=if S.h+l.length=136 then kD { d:=S.d,p:=splice S.p S.h l,h:=S.h } else { d:=S.d,p:=splice S.p S.h l,h:=S.h+l.length }:=by
 induction l generalizing S with
 | nil=>exact absurd rfl c
 | cons x r ih =>
  show gB (Ee S x) r=_;simp only[Yx]at k⊢;cases r with
  | nil =>
   unfold Ee gB splice;simp only[List.foldl_nil,List.length_nil];by_cases e:S.h+1=136
   .rw[yEX e,yEX oM];rfl
   .rw[yEY e,yEY oM];rfl
  | cons y r' =>
   have e:¬S.h+1=136:=by simp only[Yx]at k;omega
   have f:Ee S x = { d:=S.d,p:=S.p.setIfInBounds S.h x,h:=S.h+1 }:=by unfold Ee;rw[yEY e]
   rw[f,ih _ (by simp) (by simp only[Yx]at k⊢;omega)];simp only[splice,Yx];by_cases b:S.h+(r'.length+1+1)=136
   .rw[yEX oM,yEX b];rfl
   .rw[yEY oM,yEY b,show S.h+1+(r'.length+1)=S.h+(r'.length+1+1) by omega]
/-! ### The end -/
def ended(p : Bs)(h : Nat)(e : UInt8): Bs:=
  let q:=(splice p h (YM (136-h) 0)).setIfInBounds h e
  q.setIfInBounds 135 (q[135]! ^^^ 128)
def uA(S:Sp)(e:UInt8):Sp:=kD { d:=S.d,p:=ended S.p S.h e,h:=S.h }
def kB(h:Nat)(e:UInt8):List UInt8:=
 (e :: YM (135-h) 0).set (135-h) ((e :: YM (135-h) 0)[135-h]! ^^^ 128)
def fR{h:Nat}(e:UInt8)(hh:h<136):(kB h e).length=136-h:=by
 unfold kB;rw[List.length_set,Yx,ZR];omega
def S3{a b:Bs}(n:Nat)(d:a.size=n)(e:b.size=n)(h:∀j,j<n->a[j]! = b[j]!):a=b:=by
 apply yEK oM;intro i k c;have:=h i oM;rwa[getElem!_pos a i k,getElem!_pos b i c]at this
def Rz{h j:Nat}(e:UInt8)(c:j<136-h)(hh:h<136):(kB h e)[j]! = (if j=0 then e else 0) ^^^ (if j=135-h then 128 else 0):=by
 have f:∀j,j<136-h->(e :: YM (135-h) (0:UInt8))[j]! = if j=0 then e else 0:=by
  intro j c;cases j with
  | zero=>rfl
  | succ j =>
   have d:j+1<(e :: YM (135-h) (0:UInt8)).length:=by rw[Yx,ZR];omega
   rw[getElem!_pos (e :: YM (135-h) (0:UInt8)) (j+1) d];simp
 have k:=fR e hh;have d:j<(e :: YM (135-h) (0:UInt8)).length:=by rw[Yx,ZR];omega
 rw[getElem!_pos (kB h e) j (by rw[k];exact c)];unfold kB;rw[List.getElem_set];by_cases b:135-h=j
 .rw[yEX b,f (135-h) oM,b,yEX (rfl:j=j)]
 .rw[yEY b,yEY (show ¬j=135-h by omega)];have:=f j c;rw[getElem!_pos (e :: YM (135-h) (0:UInt8)) j d]at this;rw[this];simp
def EL(p:Bs)(h:Nat)(e:UInt8):(ended p h e).size=p.size:=by
 unfold ended;simp only[YR,dF]
def Cr{n j:Nat}(h:j<n):(YM n (0:UInt8))[j]! = 0:=by
 rw[getElem!_pos _ j (by simpa using h)];simp
def LJ{p:Bs}{h:Nat}{e:UInt8}(c:p.size=136)(hh:h<136):ended p h e=splice p h (kB h e):=by
 have g:(splice p h (YM (136-h) 0)).size=136:=by rw[dF,c]
 refine S3 136 (by rw[EL,c]) (by rw[dF,c]) (λj f=>?_);have d:∀j,j<136->((splice p h (YM (136-h) 0)).setIfInBounds h e)[j]! = if j<h then p[j]! else if j=h then e else 0:=by
  intro j f;by_cases k:j=h
  .rw[k,getElem!_set_same _ _ _ oM,yEY oM,yEX rfl]
  .rw[getElem!_set_other _ _ _ _ k,kY _ _ _ _ (by rw[ZR,c];omega) oM,ZR];by_cases b:j<h
   .rw[yEY oM,yEX b]
   .rw[yEX oM,yEY b,yEY k,Cr oM]
 have hR:(splice p h (kB h e))[j]! = if j<h then p[j]! else(if j=h then e else 0) ^^^ (if j=135 then 128 else 0):=by
  rw[kY _ _ _ _ (by rw[fR e hh,c];omega) oM,fR e hh];by_cases b:j<h
  .rw[yEY (show ¬(h<=j/\j<h+(136-h)) by omega),yEX b]
  .rw[yEX (show h<=j/\j<h+(136-h) by omega),yEY b,Rz e oM hh];have k:(j-h=0)=(j=h):=by apply propext;omega
   have i:(j-h=135-h)=(j=135):=by apply propext;omega
   simp only[k,i]
 have i:(ended p h e)[j]! = if j<h then p[j]! else(if j=h then e else 0) ^^^ (if j=135 then 128 else 0):=by
  unfold ended;by_cases k:j=135
  .rw[k,getElem!_set_same _ _ _ (by rw[YR,g];decide),d 135 dC,yEY (show ¬135<h by omega),yEY (show ¬135<h by omega),yEX (rfl:135=135)]
  .rw[getElem!_set_other _ _ _ _ k,d j f];by_cases b:j<h
   .rw[yEX b,yEX b]
   .rw[yEY b,yEY b,yEY k];simp
 rw[i,hR]
def Iz{S:Sp}(h:Ok S)(e:UInt8):uA S e=gB S (kB S.h e):=by
 have:=h.hlt;have k:=fR e h.hlt;rw[uK S (by intro c;rw[c]at k;simp at k;omega) oM,yEX oM];unfold uA;rw[LJ h.p136 h.hlt]
end SP
namespace SP
def Only.widen{b o n k c:Nat}{w w':XA}(h:Only b o n w w')(e:k<=o)(f:o+n<=k+c):Only b k c w w':=
 ⟨h.os,h.tape,h.output,h.size,h.block,λq d=>h.cell q oM,h.froz⟩
structure HSp(w:XA)(b:Nat)(S:Sp):Prop where
 d:Holds enc w b 0 S.d
 p:Holds encB w b 25 S.p
 h:w.cell? ⟨b,161,none⟩=some (iZ (S.h:Int))
 f:w.frozen? ⟨b,161,none⟩=false
def HSp.drew{w:XA}{b:Nat}{S:Sp}(h:HSp w b S):HSp w.drew b S:=⟨h.d,h.p,h.h,h.f⟩
def HSp.lt{w:XA}{b:Nat}{S:Sp}(h:HSp w b S):b<w.heap.size:=ZY _ _ h.h
def HSp.below{w w':XA}{b B:Nat}{S:Sp}(h:HSp w b S)(k:Below B w w')(c:b<B):HSp w' b S:=
 ⟨Holds.below h.d k c,Holds.below h.p k c,by rw[k.cell (p:=⟨b,161,none⟩) c];exact h.h,by rw[k.frozen (p:=⟨b,161,none⟩) c];exact h.f⟩
def xJ(b:Nat)(S:Sp)(w:XA)(c:S.d.size=25)(g:S.p.size=136)(j:HSp w b S):
 YN prog 152 #[.pointer (some ⟨b,0,none⟩)] w λe w'=>e=.returned (.tuple #[])/\Only b 0 162 w w'/\HSp w' b (kD S):=by
 obtain⟨d,p,h⟩:=S;dsimp only at c g;have B:Holds enc w b 0 d:=j.d;have a:Holds encB w b 25 p:=j.p;have A:=j.h;have hf:=j.f;dsimp only at A;rw[oR];clear j;have z:(perm (lN p d 17)).size=25:=tH (by rw[mR,c]);generalize r:perm (lN p d 17)=C at z⊢;have x:Hid (perm (lN p d 17)=C):=r;clear r;go_enter func152,ntmps152;go_wp2;go_still_tail 7,mixed;go_wp2_with fail
 apply(Oq b 0 b 25 136 136 p d _ c (Holds.drew B) (Holds.drew a) g dC (XD _) oM).mono;rintro e s ⟨rfl,n,m⟩;have k:Only b 0 25 w s:=((Only.refl b 0 25 w).drew).trans n;have l:Holds enc s b 0 (lN p d 17):=m;have u:=Holds.same a k oM;have c1:s.cell? ⟨b,161,none⟩=some (.int .i64 h):=by rw[k.cell 161 oM];exact A
 have f1:s.frozen? ⟨b,161,none⟩=false:=by rw[k.froz];exact hf
 clear n m;go_wp2_with fail
 apply(uP b 0 _ _ (by rw[mR,c]) l).mono;rintro e o ⟨rfl,f,q⟩;rw[x.out]at q;have t:=Holds.same u f oM;have c2:o.cell? ⟨b,161,none⟩=some (.int .i64 h):=by rw[f.cell 161 oM];exact c1
 have f2:o.frozen? ⟨b,161,none⟩=false:=by rw[f.froz];exact f1
 go_wp2
 go_end0
 have i:Only b 161 1 o (o.setCell ⟨b,161,none⟩ (.int .i64 0)):=(Only.refl b 161 1 o).setCell oM oM _;have y:=Holds.same q i (Ye oM);have v:=Holds.same t i (Ye oM);exact⟨rfl,((k.trans f).widen (XD _) oM).trans (i.widen oM oM),⟨y,v,ZI _ _ _ c2,by rw[Zq];exact f2⟩⟩
def ints5:gZ 5 1:=gQ
def jC{w:XA}{b o:Nat}{p:Bs}(h:Holds encB w b o p)(i:Nat)(l:List UInt8)(d:i+l.length<=p.size):Holds encB (w.setCells b (o+i) (l.map encB)) b o (splice p i l):=by
 refine Holds.setCells h _ i dF (by rw[XZ];exact d) (λj c=>?_) (λj c k=>?_)
 .rw[XZ]at c;rw[kY p i l (i+j) d oM,yEX oM,ZE,getElem!_pos l j c,yAc]
 .rw[XZ]at k;rw[kY p i l j d c,yEY oM]
def piece(b:Bs)(k n:Nat):List UInt8:=(b.toList.drop k).take n
def rM(b:Bs)(k n:Nat)(h:k+n<=b.size):(piece b k n).length=n:=by
 unfold piece;rw[List.length_take,List.length_drop,XU];omega
def piece_at{n j:Nat}(b:Bs)(k:Nat)(h:k+n<=b.size)(c:j<n)(d:j<(piece b k n).length):(piece b k n)[j]=b[k+j]!:=by
 have e:(piece b k n)[j]? = some b[k+j]!:=by
  unfold piece;rw[List.getElem?_take_of_lt c,List.getElem?_drop,YE,X8 oM,getElem!_pos b (k+j) oM]
 exact(XM.1 e).2
def DR(b:Bs)(k n:Nat):b.toList.take (k+n)=b.toList.take k++piece b k n:=List.take_add
def EQ{w:XA}{b h e o len cap n:Nat}{p d:Bs}{k:Nat}(m:Holds encB w b 25 p)(a:p.size=136)(s:Holds encB w e o d)(hh:h<136)(z:k+len<=d.size)(g:Nat.min len (136-h)=n):
 (yAD #[23,23] 3 #[qZ b (25+h) (136-h) (136-h),qZ e (o+k) len cap]).run prog w=.ok (goInt n) (w.setCells b (25+h) ((piece d k n).map encB)):=by
 have u:n<=len:=by rw[<-g];exact yCM _ _
 have t:n<=136-h:=by rw[<-g];exact yCF _ _
 have c:((piece d k n).map encB).length=n:=by rw[XZ,rM d k n oM]
 have:=run_copy_cells (P:=prog) w 23 23 3 5 b (25+h) (136-h) (136-h) ⟨e,o+k,none⟩ len cap ((piece d k n).map encB) slice22 ints5 (by rw[c,g])
  (λj v f=>by
   obtain⟨i,q⟩:=XM.1 f;rw[c]at i;have y:=(s (k+j) oM).1;rw[yAc,piece_at d k oM i]at q;have r:(⟨e,o+k,none⟩:Y0).add j=⟨e,o+(k+j),none⟩:=by
    unfold yBT;by_cases l:j=0
    .subst l;rw[yEX rfl];rfl
    .rw[yEY l,ZB]
   rw[r,y,q])
  (λj f=>by
   rw[c]at f;have:=(m (h+j) oM).1;rw[<-ZB]at this;rw[this];rfl)
  (λj f=>by
   rw[c]at f;have:=(m (h+j) oM).2;rw[<-ZB]at this;exact this)
  (λv hv=>by
   obtain⟨x,_,rfl⟩:=YC.1 hv;rfl)
 rw[c]at this;exact this
def rW{w:XA}{m b:Nat}{d:St}{p:Bs}{v:XB}(j:Holds enc w b 0 d)(i:d.size=25)(l:Holds encB w b 25 p)(e:p.size=136)(g:w.cell? ⟨b,161,none⟩=some v)(hf:w.frozen? ⟨b,161,none⟩=false):
 HSp (w.setCell ⟨b,161,none⟩ (iZ ((m:Nat):Int))) b ⟨d,p,m⟩:=by
 have f:Only b 161 1 w (w.setCell ⟨b,161,none⟩ (iZ ((m:Nat):Int))):=(Only.refl b 161 1 w).setCell oM oM _;have k:=Holds.same j f (Ye oM);have c:=Holds.same l f (Ye oM);exact⟨k,c,ZI _ _ _ g,by rw[Zq];exact hf⟩
def take_any(b:Nat)(S:Sp)(a:Option Y0)(x B len cap:Nat)(d:Bs)(w:XA)(P:Ok S)(hS:HSp w b S)(hl:d.size=len)(h2:len<=cap)(h1:len<=1099511627776)
 (c:len=0\/(a=some ⟨x,B,none⟩/\x≠b/\Holds encB w x B d)) :
 YN prog 151 #[.pointer (some ⟨b,0,none⟩),.slice a len cap] w λe w'=>e=.returned (.tuple #[])/\Only b 0 162 w w'/\HSp w' b (gB S d.toList):=by
 go_enter func151,ntmps151;go_wp2;go_loopg [1] len (λg s1 wr=>∃(k:Nat) (W:Option Y0) (j:Sp),k+g=len/\s1=.slice W (len-k) (cap-k)/\(k<len->W=some ⟨x,B+k,none⟩)/\HSp wr b j/\Only b 0 162 w wr/\Hid (j=gB S (d.toList.take k)))
 case atStart =>
  refine⟨0,a,S,oM,rfl,λf=>?_,hS,Only.refl _ _ _ _,rfl⟩;rcases c with h|⟨h,_,_⟩
  .omega
  .exact h
 case round =>
  obtain⟨k,W,j,hk,rfl,O,m,Z,V⟩:=hrel;by_cases T:k<len
  .have R:=O T;subst R;obtain⟨_,Q,hB⟩:a=some ⟨x,B,none⟩/\x≠b/\Holds encB w x B d:=by
    rcases c with h|h
    .omega
    .exact h
   have G:=Holds.other hB Z Q oM;have i:Ok j:=by rw[V.out];exact jL P
   obtain⟨q,hh⟩:=vH j.h;have r:=i.hlt;have D:=i.p136;rw[hh]at r;have hc:=m.h;have hf:=m.f;rw[hh]at hc;have U:=m.p;obtain⟨n,J⟩:=vH (Nat.min (len-k) (136-q));have l0:(0:Int)<((len-k:Nat):Int):=oM;have N:(q:Int)<=136:=oM;have Hh:Hid (j.h=q):=hh;clear hh;have K:=eq_false oM;have h4:1<=n:=by rw[<-J];exact(Nat.le_min).2 ⟨oM,oM⟩
   have h3:n<=len-k:=by rw[<-J];exact yCM _ _
   have h5:n<=136-q:=by rw[<-J];exact yCF _ _
   have X:=EQ (w:=wr.drew) (cap:=cap-k) (k:=k) U D G r oM J;have y:=rM d k n oM;have t:=jC (Holds.drew U) q (piece d k n) oM;have v:Only b 0 162 w (wr.drew.setCells b (25+q) ((piece d k n).map encB)):=Z.drew.setCells _ _ oM (by rw[XZ];omega);have A:Only b 25 136 wr (wr.drew.setCells b (25+q) ((piece d k n).map encB)):=((Only.refl b 25 136 wr).drew).setCells _ _ oM (by rw[XZ];omega);have s:=Holds.same m.d A (Ye (by rw[i.d25];omega));have c1:(wr.drew.setCells b (25+q) ((piece d k n).map encB)).cell? ⟨b,161,none⟩=some (.int .i64 q):=by rw[A.cell 161 oM];exact hc
   have f1:(wr.drew.setCells b (25+q) ((piece d k n).map encB)).frozen? ⟨b,161,none⟩=false:=by rw[A.froz];exact hf
   have L:Hid (gB S (d.toList.take (k+n))=gB j (piece d k n)):=by
    show _=_;rw[DR,mG,<-V.out]
   have f:Hid (gB j (piece d k n)=if q+n=136 then kD ⟨j.d,splice j.p q (piece d k n),q⟩ else⟨j.d,splice j.p q (piece d k n),q+n⟩):=by
    show _=_;have:=uK j (l:=(piece d k n)) (by intro e;rw[e]at y;simp at y;omega) (by rw[y,Hh.out];omega);rw[y,Hh.out]at this;exact this
   have p:(splice j.p q (piece d k n)).size=136:=by rw[dF,D]
   have l:=i.d25;generalize Y:wr.drew.setCells b (25+q) ((piece d k n).map encB)=W1 at X t v s c1 f1;generalize splice j.p q (piece d k n)=E at t p f;generalize j.d=F at s l f;clear A Y U G i y m D J;have z1:(n:Int)<=((len-k:Nat):Int):=oM;by_cases z:cap-k=n
   .have I:(cap-k=n)=True:=eq_true z;have H:Hid (cap-k=n):=z;clear z;by_cases c:q+n=136
    .have M:((q:Int)+(n:Int) == 136)=true:=beq_iff_eq.2 oM;rw[yEX c]at f;go_wp2_with fail
     go_still_tail 9,mixed;go_wp2_with fail
     refine(xJ b ⟨F,E,q+n⟩ _ l p (rW s l t p c1 f1 (m:=(q+n)))).mono ?_;rintro e w2 ⟨rfl,C,u⟩;go_wp2;go_roundg (gk-n)
     case measure=>omega
     case rel =>
      refine⟨k+n,some ⟨x,B+k,none⟩,kD ⟨F,E,q⟩,oM,by rw[yAV,yAV],λhx=>oN H.out,?_,?_,?_⟩
      .rw[oR]at u⊢;exact u
      .exact(v.setCell (o:=161) oM oM _).trans C
      .rw[L.out,f.out];rfl
    .have M:=beq_eq_false_iff_ne.2 oM;rw[yEY c]at f;go_wp2_with fail
     go_still_tail 9,mixed;go_wp2;go_roundg (gk-n)
     case measure=>omega
     case rel =>
      refine⟨k+n,some ⟨x,B+k,none⟩,⟨F,E,q+n⟩,oM,by rw[yAV,yAV],λhx=>oN H.out,?_,?_,?_⟩
      .exact rW s l t p c1 f1 (m:=(q+n))
      .exact v.setCell (o:=161) oM oM _
      .rw[L.out,f.out];rfl
   .have I:=eq_false z;by_cases c:q+n=136
    .have M:=beq_iff_eq.2 oM;rw[yEX c]at f;go_wp2_with fail
     go_still_tail 9,mixed;go_wp2_with fail
     refine(xJ b ⟨F,E,q+n⟩ _ l p (rW s l t p c1 f1 (m:=(q+n)))).mono ?_;rintro e w2 ⟨rfl,C,u⟩;go_wp2;go_roundg (gk-n)
     case measure=>omega
     case rel =>
      refine⟨k+n,some ⟨x,B+k+n,none⟩,kD ⟨F,E,q⟩,oM,by rw[yAV,yAV],λ_=>by rw[ZB],?_,?_,?_⟩
      .rw[oR]at u⊢;exact u
      .exact(v.setCell (o:=161) oM oM _).trans C
      .rw[L.out,f.out];rfl
    .have M:=beq_eq_false_iff_ne.2 oM;rw[yEY c]at f;go_wp2_with fail
     go_still_tail 9,mixed;go_wp2;go_roundg (gk-n)
     case measure=>omega
     case rel =>
      refine⟨k+n,some ⟨x,B+k+n,none⟩,⟨F,E,q+n⟩,oM,by rw[yAV,yAV],λ_=>by rw[ZB],?_,?_,?_⟩
      .exact rW s l t p c1 f1 (m:=(q+n))
      .exact v.setCell (o:=161) oM oM _
      .rw[L.out,f.out];rfl
  .have c:k=len:=oM;go_wp2
   go_end0
   refine⟨rfl,Z,?_⟩;have R:d.toList.take k=d.toList:=yC4 (by rw[XU];omega);rw[V.out,R]at m;exact m
def rR(x:UInt8):yAf 8 (x.toNat:Int)=x.toBitVec:=by
 apply yC2;rw[yDa,yBY];exact X6 x.toNat_lt
def AV(x y:UInt8):bits .xor .u8 (ub x) (ub y)=ub (x ^^^ y):=by
 show yBc.wrap ((yAf 8 (x.toNat:Int) ^^^ yAf 8 (y.toNat:Int)).toNat:Int)=_;rw[rR,rR,<-UInt8.toBitVec_xor];have h:((x ^^^ y).toNat:Int)<256:=oN ((x ^^^ y).toNat_lt);have e:∀n:Int,yBc.wrap n=n%256:=λn=>by simp[yD2,yD3,yDI]
 rw[e];exact yDS (Int.natCast_nonneg _) h
def Tu(x:UInt8):bits .xor .u8 (ub x) 128=ub (x ^^^ 128):=AV x 128
def Tt:∀w:XA,(zeroValue 5).run prog w=.ok (.int .u8 0) w:=λ_=>kR
def Da{w:XA}{b q:Nat}{p:Bs}(c:Holds encB w b 25 p)(f:p.size=136)(e:q<136)(k:Yd):
 (Builtin.clear_ #[23] k #[qZ b (25+q) (136-q) (136-q)]).run prog w=.ok (.tuple #[]) (w.setCells b (25+q) ((YM (136-q) (0:UInt8)).map encB)):=by
 have h:=Lib.run_clear_slice (P:=prog) w 23 5 k (.int .u8 0) slice22 Tt rfl rfl b (25+q) (136-q) (136-q) oM
  (λj d=>by
   have:=(c (q+j) oM).1;rw[<-ZB]at this;rw[this];rfl)
  (λj d=>by
   have:=(c (q+j) oM).2;rw[<-ZB]at this;exact this)
 rw[List.map_replicate];exact h
def GN(b:Nat)(S:Sp)(e:UInt8)(w:XA)(l:Ok S)(v:HSp w b S):
 YN prog 95 #[.pointer (some ⟨b,0,none⟩),.int .u8 (ub e)] w λr w'=>r=.returned (.tuple #[])/\Only b 0 162 w w'/\HSp w' b (uA S e):=by
 obtain⟨d,p,q⟩:=S;have M:d.size=25:=l.d25;have n:p.size=136:=l.p136;have T:q<136:=l.hlt;have W:Holds enc w b 0 d:=v.d;have L:Holds encB w b 25 p:=v.p;have R:w.cell? ⟨b,161,none⟩=some (.int .i64 q):=v.h;have hf:=v.f;have z:=Da (Holds.drew L) n T 0;have u:Only b 25 136 w (w.drew.setCells b (25+q) ((YM (136-q) (0:UInt8)).map encB)):=((Only.refl b 25 136 w).drew).setCells _ _ oM (by rw[XZ,ZR];omega);have f:=jC (Holds.drew L) q (YM (136-q) (0:UInt8)) (by rw[ZR];omega);have A:(splice p q (YM (136-q) 0)).size=136:=by rw[dF,n]
 have y:Hid (uA ⟨d,p,q⟩ e=kD ⟨d,((splice p q (YM (136-q) 0)).setIfInBounds q e).setIfInBounds 135 (((splice p q (YM (136-q) 0)).setIfInBounds q e)[135]! ^^^ 128),q⟩):=by
  show _=_;unfold uA ended;rfl
 generalize w.drew.setCells b (25+q) ((YM (136-q) (0:UInt8)).map encB)=D at z u f;generalize splice p q (YM (136-q) 0)=U at f A y;have C:(136=q)=False:=eq_false oM;have J:(q:Int)<=136:=oM;have B:(q:Int)<136:=oM;have c1:D.cell? ⟨b,161,none⟩=some (.int .i64 q):=by rw[u.cell 161 oM];exact R
 obtain⟨c2,f2⟩:=f q oM;obtain⟨k,c⟩:=vH (U.setIfInBounds q e);rw[c]at y;have N:k.size=136:=by rw[<-c,YR,A]
 obtain⟨x,hx⟩:∃x,k[135]! = x:=⟨_,rfl⟩
 rw[hx]at y;have Q:=Tu x;have t:=Holds.set f (i:=q) oM e;rw[c]at t;have a:Only b 25 136 w (D.setCell ⟨b,25+q,none⟩ (.int .u8 (ub e))):=u.setCell (o:=25+q) oM oM _;have g:Holds encB (D.setCell ⟨b,25+q,none⟩ (.int .u8 (ub e))) b 25 k:=t;have V:Hid (k[135]! = x):=hx;rw[y.out];clear v l L c hx t y;have G:(k.setIfInBounds 135 (x ^^^ 128)).size=136:=by rw[YR,N]
 go_enter func95,ntmps95;go_wp2;go_still_tail 8,mixed;go_wp2_with fail
 go_region
 go_wp2_with fail
 generalize D.setCell ⟨b,25+q,none⟩ (.int .u8 (ub e))=K at g a⊢;obtain⟨X,f3⟩:=G7 g oM V;clear c1 c2 f2 z f;go_region
 go_wp2_with fail
 have I:=Holds.set g (i:=135) oM (x ^^^ 128);have j:Only b 25 136 w (K.setCell ⟨b,160,none⟩ (.int .u8 (ub (x ^^^ 128)))):=a.setCell (o:=160) oM oM _;have m:Holds encB (K.setCell ⟨b,160,none⟩ (.int .u8 (ub (x ^^^ 128)))) b 25 (k.setIfInBounds 135 (x ^^^ 128)):=I;generalize K.setCell ⟨b,160,none⟩ (.int .u8 (ub (x ^^^ 128)))=P at m j⊢;have O:Holds enc P b 0 d:=Holds.same W j (Ye oM);have E:HSp P b ⟨d,k.setIfInBounds 135 (x ^^^ 128),q⟩:=⟨O,m,by rw[j.cell 161 oM];exact R,by rw[j.froz];exact hf⟩
 apply(xJ b ⟨d,k.setIfInBounds 135 (x ^^^ 128),q⟩ _ M G E.drew.drew).mono;rintro r Y ⟨rfl,F,H⟩;go_wp2
 go_end0
 exact⟨rfl,(j.drew.drew.widen oM oM).trans F,H⟩
end SP
namespace SP
open Go.Sort
def iK(d:St):Nat->St
 | 0=>d
 | m+1=>perm (iK d m)
def dM{d:St}(hd:d.size=25)(m:Nat):(iK d m).size=25:=by
 induction m with
 | zero=>exact hd
 | succ m ih=>exact tH ih
def jM(d:St)(j:Nat):UInt8:=byteOf (iK d (j/136)) (j%136)
def mI(d:St)(n:Nat):Bs:=Array.ofFn (λi:Fin n=>jM d i.val)
def mH(d:St)(n:Nat):(mI d n).size=n:=by simp[mI]
def DW{n j:Nat}(d:St)(k:j<n):(mI d n)[j]! = jM d j:=by
 rw[getElem!_pos (mI d n) j (by rw[mH];exact k)];simp[mI]
def S0:Sp:=⟨wV,XT 136 0,0⟩
def Do:Ok S0:=⟨by simp[S0,wV],by simp[S0],dC⟩
def zX(l:List UInt8)(e:UInt8):St:=(uA (gB S0 l) e).d
def vJ{l:List UInt8}{e:UInt8}:(zX l e).size=25:=by
 unfold zX;have h:=jL Do (l:=l);rw[Iz h];exact(jL h).d25
def Le(l:List UInt8):Bs:=front (zX l 6) 32
def kX(l:List UInt8)(n:Nat):Bs:=mI (zX l 31) n
end SP
namespace SP
def vF{w:XA}{g l cap r k n c:Nat}{cur f:Bs}(q:Holds encB w g 0 cur)(D:cur.size=cap)(a:Holds encB w r 0 f)(B:f.size=n)(p:k=n)(e:l+n<=cap)(s:Yd):
 (YG #[23,23] s #[sZ g l cap,sZ r k c]).run prog w=.ok (sZ g (l+n) cap) (w.setCells g l (f.toList.map encB)):=by
 subst p;obtain⟨i,A,_,d,_⟩:=info_parts info5;have b:(f.toList.map encB).length=k:=by rw[XZ,XU,B]
 have m:Src prog i.size 23 (sZ r k c) k (f.toList.map encB) w:=by
  rw[d];refine Src.ofSlice w slice22 (aZ r) k c _ (by rw[b,Z5]) (λj v o=>?_) (λv hv=>?_)
  .obtain⟨C,u⟩:=XM.1 o;rw[b]at C;have y:=(a j oM).1;rw[getElem!_pos f j oM]at y;rw[yAc,yAi]at u;have z:(⟨r,0,none⟩:Y0).add j=⟨r,0+j,none⟩:=by
    unfold yBT;by_cases t:j=0
    .subst t;rw[yEX rfl]
    .rw[yEY t]
   rw[z,y,u]
  .obtain⟨x,_,rfl⟩:=YC.1 hv;rfl
 have h:=run_append_room_src (P:=prog) w 23 23 s 5 i slice22 A g 0 l cap (sZ r k c) k _ m e
  (λj o=>by
   rw[b]at o;rw[d,Z5,ZB,(q (l+j) oM).1];rfl)
  (λj o=>by
   rw[b]at o;rw[d,Z5,ZB];exact(q (l+j) oM).2)
 rw[d,Z5,XI]at h;exact h
def Only.with_new{b o n g m p:Nat}{w c d:XA}(h:Only b o n w c)(k:Only g p m c d)(t:w.heap.size<=g)(s:b<w.heap.size):Only b o n w d:=by
 have r:=h.size;have e:=k.block b oM oM;exact⟨k.os.trans h.os,k.tape.trans h.tape,k.output.trans h.output,XH h.size k.size,
  λj l i=>(k.block j oM oM).trans (h.block j l i),
  λq f=>(X4 (w:=c) (a:=⟨b,q,none⟩) e).trans (h.cell q f),λq=>(Y2 (w:=c) (a:=⟨b,q,none⟩) e).trans (h.froz q)⟩
def Ef{m:Nat}(d:St)(h:¬m=0):perm (iK d (m-1))=iK d m:=by
 obtain⟨k,rfl⟩:∃k,m=k+1:=⟨m-1,oM⟩
 rw[Nat.add_sub_cancel,iK]
def Ci{d:St}{m:Nat}{cur:Bs}(b:136*m+136<=cur.size)(h:∀j,j<136*m->cur[j]! = jM d j):∀j,j<136*(m+1)->(splice cur (136*m) (front (iK d m) 136).toList)[j]! = jM d j:=by
 intro j e;have k:(front (iK d m) 136).toList.length=136:=by rw[XU,dO]
 rw[kY _ _ _ _ (by rw[k];exact b) oM,k];by_cases c:j<136*m
 .rw[yEY oM,h j c]
 .rw[yEX oM,getElem!_pos _ (j-136*m) (by rw[k];omega),yAi,<-getElem!_pos (front (iK d m) 136) (j-136*m) (by rw[dO];omega),Lt oM];unfold jM;rw[show j/136=m by omega,show j%136=j-136*m by omega]
def Lm(b:Nat)(d:St)(n:Nat)(w:XA)(f:d.size=25)(hD:Holds enc w b 0 d)(hn:n<=16384):
 cZ 203 #[jZ b,iZ n] w λe w'=>e=.returned (sZ w.heap.size n n)/\Only b 0 25 w w'/\Holds encB w' w.heap.size 0 (mI d n):=by
 have L:=Holds.lt hD oM;obtain⟨i,hi,G,W,S⟩:=info_parts info5;obtain⟨q,Q⟩:=vH (n+136);have h1:∀w:XA,(yAh 23 (iZ 0) (iZ ((n:Int)+136))).run prog w=.ok (sZ w.heap.size 0 q) (w.alloc (.cells (madeCells #[.int .u8 0] q) 5)):=by
  intro w;have h:=run_make (P:=prog) w 23 5 i (.int .u8 0) slice22 hi G .i64 .i64 0 ((n:Int)+136) oM oM (by rw[S];omega) oM;rw[W,Z5,show((n:Int)+136).toNat=q by omega]at h;exact h
 have R:Holds encB (w.alloc (.cells (madeCells #[.int .u8 0] q) 5)) w.heap.size 0 (XT q 0):=Holds.made (enc:=encB) w 5 q 0;have M:Only b 0 25 w (w.alloc (.cells (madeCells #[.int .u8 0] q) 5)):=(Only.refl _ _ _ _).alloc L _;have U:=Holds.below hD ((XR w.heap.size w).alloc (XD _) (.cells (madeCells #[.int .u8 0] q) 5)) L;have X:w.heap.size<(w.alloc (.cells (madeCells #[.int .u8 0] q) 5)).heap.size:=by simp
 have T:=mk1 (Q);go_enter func203,ntmps203;go_wp2;go_loopg [5] q (λg s5 wr=>∃(m l:Nat) (cur:Bs),Hid (l=136*m)/\l+g=q/\1<=g/\s5=sZ w.heap.size l q/\Holds encB wr w.heap.size 0 cur/\cur.size=q/\Holds enc wr b 0 (iK d (m-1))/\Only b 0 25 w wr/\w.heap.size<wr.heap.size/\Hid (∀j,j<136*m->cur[j]! = jM d j))
 case atStart=>exact⟨0,0,_,rfl,oM,oN T.out,rfl,R,by rw[X0],U,M,X,λj V=>oM⟩
 case round =>
  obtain⟨m,l,cur,D,hg,h2,rfl,K,z,a,Y,hs,HE⟩:=hrel;have O:=dM (d:=d) f (m-1);by_cases h3:l<n
  .have h0:(l:Int)<(n:Int):=oM;have HN:Hid (∀j,j<136*(m+1)->(splice cur l (front (iK d m) 136).toList)[j]! = jM d j):=by
    rw[D.out];exact Ci (d:=d) (m:=m) (cur:=cur) (by rw[<-D.out];omega) HE
   by_cases I:m=0
   .have G:¬(0:Int)<(l:Int):=oN D.out;have s:Holds enc wr b 0 (iK d m):=by rw[I]at a⊢;exact a
    go_wp2_with fail
    refine(tX b 0 136 _ _ (dM (d:=d) f m) s dC).mono ?_;rintro e E ⟨rfl,p,N⟩;have r:=Holds.below K p (Holds.lt K oM);have B:=Holds.below s p (Holds.lt s (by rw[dM (d:=d) f];decide));have x:=vF (l:=l) (k:=136) (n:=136) (c:=136) r z N dO rfl oM 23;have t:=jC r l (front (iK d m) 136).toList (by rw[XU,dO];omega);rw[XI]at t;have C:=Y.trans (Only.of_below p rfl (Holds.lt s (by rw[dM (d:=d) f];decide)));have o:Only w.heap.size 0 q E (E.setCells w.heap.size l ((front (iK d m) 136).toList.map encB)):=(Only.refl _ _ _ _).setCells _ _ oM (by rw[XZ,XU,dO];omega);have v:=C.with_new o (XD _) L;have y:=Holds.other B o oM (by rw[dM (d:=d) f];decide);have u:=XC (Holds.lt r oM) o.size;generalize E.setCells w.heap.size l ((front (iK d m) 136).toList.map encB)=F at x t v y u;have A:Hid _:=x;go_wp2_with (at_builtin;refine yAj _ rfl _ _ 23 23 rfl _ _ rfl rfl _ _ A.out ?_)
    go_roundg (gk-136)
    case measure=>omega
    case rel =>
     exact⟨m+1,l+136,_,by have:=D.out;show _=_;omega,oM,oM,rfl,t,by rw[dF,z],y,v,u,HN⟩
   .have Z:(0:Int)<(l:Int):=oN D.out;go_wp2_with fail
    refine(uP b 0 _ _ O a).mono ?_;rintro e w1 ⟨rfl,J,s⟩;rw[Ef d (m:=m) I]at s;have H:=Holds.other K J oM oM;have F:=Y.trans J;go_wp2_with fail
    refine(tX b 0 136 _ _ (dM (d:=d) f m) s dC).mono ?_;rintro e E ⟨rfl,p,N⟩;have r:=Holds.below H p (Holds.lt H oM);have B:=Holds.below s p (Holds.lt s (by rw[dM (d:=d) f];decide));have x:=vF (l:=l) (k:=136) (n:=136) (c:=136) r z N dO rfl oM 23;have t:=jC r l (front (iK d m) 136).toList (by rw[XU,dO];omega);rw[XI]at t;have C:=F.trans (Only.of_below p rfl (Holds.lt s (by rw[dM (d:=d) f];decide)));have o:Only w.heap.size 0 q E (E.setCells w.heap.size l ((front (iK d m) 136).toList.map encB)):=(Only.refl _ _ _ _).setCells _ _ oM (by rw[XZ,XU,dO];omega);have v:=C.with_new o (XD _) L;have y:=Holds.other B o oM (by rw[dM (d:=d) f];decide);have u:=XC (Holds.lt r oM) o.size;have A:Hid _:=x;go_wp2_with (at_builtin;refine yAj _ rfl _ _ 23 23 rfl _ _ rfl rfl _ _ A.out ?_)
    go_roundg (gk-136)
    case measure=>omega
    case rel =>
     exact⟨m+1,l+136,_,by have:=D.out;show _=_;omega,oM,oM,rfl,t,by rw[dF,z],y,v,u,HN⟩
  .have o:(n:Int)<=(l:Int):=oM;go_wp2;go_ret;refine⟨rfl,Y,λj V=>?_⟩;rw[mH]at V;have:=K j oM;rw[HE.out j (oN D.out)]at this;rw[DW d (n:=n) (j:=j) V];exact this
def eU:Array XB:=XT 25 (uZ 0)++XT 136 (.int .u8 0)++#[iZ 0]
def I7:∀w:XA,(zeroValue 182).run prog w=.ok (.agg eU) w:=λ_=>kR
def Jv{j:Nat}(b:j<25):eU[j]? = some (uZ 0):=by
 have k:j<(XT 25 (uZ 0)).size:=by rw[X0];exact b
 unfold eU;rw[yDt,yAB k,X8 k,Zi]
def Jt{j:Nat}(b:j<136):eU[25+j]? = some (.int .u8 0):=by
 have k:j<(XT 136 (YW .u8 0)).size:=by rw[X0];exact b
 unfold eU;rw[yDt,yBg (by rw[X0];omega),X0,ZE,yAB k,X8 k,Zi]
def Ju:eU[161]? = some (iZ 0):=by
 unfold eU;rw[yBg (by rw[Yl,X0,X0];decide),Yl,X0,X0];rfl
def Gz(w:XA)(t:Yd):HSp (w.alloc (.cells eU t)) w.heap.size S0:=by
 refine⟨λj b=>?_,λj b=>?_,?_,?_⟩
 .have k:j<25:=by simpa[S0,wV]using b
  rw[Yr,Zu,XI,Jv k];refine⟨?_,rfl⟩;have e:S0.d[j]! = 0:=Ht k;rw[e];rfl
 .have k:j<136:=by simpa[S0]using b
  rw[Yr,Zu,Jt k];refine⟨?_,rfl⟩;have e:S0.p[j]! = 0:=rep_at 136 j k;rw[e];rfl
 .rw[Yr,Ju];rfl
 .rw[Zu]
def zY(a:Option Y0)(d i len cap n:Nat)(c:Bs)(w:XA)(B:n<=16384)(y:c.size=len)(o:len<=cap)(f:len<=1099511627776)(g:len=0\/(a=some ⟨d,i,none⟩/\Holds encB w d i c)):
 YN prog 179 #[.slice a len cap,.int .i64 n] w λe w'=>∃r,e=.returned (.tuple #[.slice (some ⟨r,0,none⟩) n n,.int .i64 0])/\w.heap.size<=r/\Below w.heap.size w w'/\Holds encB w' r 0 (kX c.toList n):=by
 have m:=Gz w 182;have b:Below w.heap.size w (w.alloc (.cells eU 182)):=(XR _ _).alloc (XD _) _;have u:w.heap.size<(w.alloc (.cells eU 182)).heap.size:=by simp
 have k:len=0\/(a=some ⟨d,i,none⟩/\d≠w.heap.size/\Holds encB (w.alloc (.cells eU 182)) d i c):=by
  by_cases q:len=0
  .exact Ye q
  .rcases g with h|⟨p,l⟩
   .exact Ye h
   .have j:=Holds.lt l oM;exact X7 ⟨p,oM,Holds.below l b j⟩
 have D:=I7;go_enter func179,ntmps179;go_wp2_with fail
 generalize w.alloc (.cells eU 182)=A at m b u k⊢;apply(take_any w.heap.size S0 a d i len cap c A Do m y o f k).mono;rintro e v ⟨rfl,j,t⟩;go_wp2_with fail
 apply(GN w.heap.size (gB S0 c.toList) 31 v (jL Do) t).mono;rintro e z ⟨rfl,l,p⟩;have s:=p.d;go_wp2_with fail
 apply(Lm w.heap.size _ n _ vJ s B).mono;rintro e C ⟨rfl,q,x⟩;go_wp2
 go_ret2
 have s1:=j.size;have s2:=l.size;exact⟨z.heap.size,rfl,oM,(b.trans ((j.trans l).below oM (XD _))).trans (q.below oM (XD _)),x⟩
end SP
namespace SP
def Own(B:Nat)(w:XA)(v:XB)(T:List UInt8):Prop:=
 ∃g cap cur,v=sZ g T.length cap/\B<=g/\g<w.heap.size/\Zm cur=cap/\T.length<=cap/\Holds encB w g 0 cur/\∀j,j<T.length->cur[j]! = T[j]!
def Holds.front{α:Type}[Inhabited α]{f:α->XB}{w:XA}{b o:Nat}{d e:Array α}(h:Holds f w b o d)(g:e.size<=d.size)(k:∀j,j<e.size->e[j]! = d[j]!):Holds f w b o e:=by
 intro j c;rw[k j c];exact h j oM
def CQ(T:List UInt8)(j:Nat):T.toArray[j]! = T[j]!:=by
 by_cases h:j<T.length
 .rw[getElem!_pos T.toArray j (by simpa using h),getElem!_pos T j h];simp
 .rw[getElem!_neg T.toArray j (by simpa using h),getElem!_neg T j h]
variable {B:Nat}{w w1:XA}{v:XB}{T:List UInt8}
def Own.holds{g cap n:Nat}(h:Own B w (sZ g n cap) T):B<=g/\n=T.length/\T.length<=cap/\Holds encB w g 0 T.toArray:=by
 obtain⟨l,k,cur,hv,b,_,i,d,e,f⟩:=h;injection hv with e1 e2 e3
 injection e1 with e1
 injection e1 with e1 _ _
 subst e1 e3;exact⟨b,e2,d,Holds.front e (by simp;omega) (λj c=>by rw[CQ];exact(f j (by simpa using c)).symm)⟩
def zB(s:ByteArray)(i:B<=w.heap.size):
 ∃b w',(convert 9 23 (.string s)).run prog w=.ok b w'/\Own B w' b s.data.toList/\Below w.heap.size w w'/\b=.slice (some ⟨w.heap.size,0,none⟩) s.size (grownCap w s.size 0 5):=by
 have h:=Lib.run_convert_string_bytes (P:=prog) w 9 23 5 s str9 slice22 int5;have e:s.size<=grownCap w s.size 0 5:=by
  unfold grownCap Question.cut;exact yBK _ _
 have l:s.data.size=s.size:=rfl;refine⟨_,_,h,⟨w.heap.size,grownCap w s.size 0 5,s.data++XT (grownCap w s.size 0 5-s.size) 0,?_,i,by rw[yCd];omega,?_,?_,?_,?_⟩,?_,rfl⟩
 .rw[XU];rfl
 .rw[Yl,X0];omega
 .rw[XU];omega
 .intro j b;rw[Yl,X0]at b;have f:=Lib.bytesWorld_at_new w 5 s;have d:(yAL w 5 s).size=grownCap w s.size 0 5:=by
   unfold yAL;rw[Yl,Array.size_map,X0];omega
  have g:(yAL w 5 s)=(s.data++XT (grownCap w s.size 0 5-s.size) 0).map encB:=by
   unfold yAL;rw[Array.map_append,yDk];rfl
  have c:j<(s.data++XT (grownCap w s.size 0 5-s.size) 0).size:=by rw[Yl,X0];exact b
  constructor
  .unfold YZ;rw[f];simp only[XI];rw[yEY dC,g,yDr,X8 c,yAq,getElem!_pos _ j c]
  .unfold Zk;rw[f];simp only[XI,d];simp;omega
 .intro j b;rw[XU]at b;rw[app_front _ _ j b,getElem!_pos s.data.toList j (by rw[XU];exact b),yAi]
 .refine⟨?_,?_,?_,?_,λk b=>Lib.bytesWorld_at_old w 5 s k b⟩
  .unfold yBx yBH;rw[yEY dC];rfl
  .unfold yBx yBH;rw[yEY dC];rfl
  .unfold yBx yBH;rw[yEY dC];rfl
  .rw[yCd];omega
def Holds.below'{α:Type}[Inhabited α]{f:α->XB}{w e:XA}{b o:Nat}{d:Array α}(h:Holds f w b o d)(k:Below w.heap.size w e):Holds f e b o d:=by
 intro j g;have c:=Holds.lt h oM;exact Holds.below h k c j g
def EF{l:List UInt8}:(Le l).size=32:=by rw[Le,dO]
end SP
namespace SP
def bF(n d:Nat):UInt8:=XS (n/d)
def eX{n d:Nat}:(n:Int)/(d:Int)%256=ub (bF n d):=by
 have k:((n:Int)/(d:Int))=((n/d:Nat):Int):=by rw[yBM]
 rw[k];unfold ub bF;rw[yBj];omega
def rT(n:Nat):(n:Int)%256=ub (bF n 1):=by
 have:=eX (n:=n) (d:=1);rw[show((1:Nat):Int)=1 from rfl,Int.ediv_one]at this;exact this
def tY(l:List UInt8):List UInt8:=[bF l.length 16777216,bF l.length 65536,bF l.length 256,bF l.length 1]++l
def qT(w:XA)(x y z t:UInt8):Holds encB (w.alloc (.cells #[.int .u8 (ub x),.int .u8 (ub y),.int .u8 (ub z),.int .u8 (ub t)] 5)) w.heap.size 0 #[x,y,z,t]:=by
 have h:=Holds.new (enc:=encB) w 5 #[x,y,z,t];have e:yEJ encB #[x,y,z,t]=#[.int .u8 (ub x),.int .u8 (ub y),.int .u8 (ub z),.int .u8 (ub t)]:=by simp[encB]
 rw[e]at h;exact h
def qD(b:Nat)(S:Sp)(a:Option Y0)(c i len cap:Nat)(f:Bs)(w:XA)(m:Ok S)(A:HSp w b S)(B:f.size=len)(s:len<=cap)(l:len<=1099511627776)
 (g:len=0\/(a=some ⟨c,i,none⟩/\c≠b/\Holds encB w c i f)) :
 YN prog 94 #[.pointer (some ⟨b,0,none⟩),.slice a len cap] w λe w'=>e=.returned (.tuple #[])/\Only b 0 162 w w'/\HSp w' b (gB S (tY f.toList)):=by
 have D:=A.lt;have b0:(len:Int)/16777216%256=ub (bF len 16777216):=eX;have b1:(len:Int)/65536%256=ub (bF len 65536):=eX;have I:(len:Int)/256%256=ub (bF len 256):=eX;have H:(len:Int)%256=ub (bF len 1):=rT len;have F:Hid (tY f.toList=(#[bF len 16777216,bF len 65536,bF len 256,bF len 1]:Bs).toList++f.toList):=by
  unfold tY;rw[XU,B];rfl
 have C:=qT w (bF len 16777216) (bF len 65536) (bF len 256) (bF len 1);generalize bF len 16777216=o at *;generalize bF len 65536=t at *;generalize bF len 256=n at *;generalize bF len 1=p at *;have d:Below w.heap.size w (w.alloc (.cells #[.int .u8 (ub o),.int .u8 (ub t),.int .u8 (ub n),.int .u8 (ub p)] 5)):=(XR _ _).alloc (XD _) _;have r:=A.below d D;have j:Only b 0 162 w (w.alloc (.cells #[.int .u8 (ub o),.int .u8 (ub t),.int .u8 (ub n),.int .u8 (ub p)] 5)):=Only.of_below d rfl D;have k:len=0\/(a=some ⟨c,i,none⟩/\c≠b/\Holds encB (w.alloc (.cells #[.int .u8 (ub o),.int .u8 (ub t),.int .u8 (ub n),.int .u8 (ub p)] 5)) c i f):=by
  by_cases z:len=0
  .exact Ye z
  .rcases g with h|⟨y,u,v⟩
   .exact Ye h
   .exact X7 ⟨y,u,Holds.below v d (Holds.lt v oM)⟩
 go_enter func94,ntmps94;go_wp2_with fail
 generalize w.alloc (.cells #[.int .u8 (ub o),.int .u8 (ub t),.int .u8 (ub n),.int .u8 (ub p)] 5)=G at C d r j k⊢;apply(take_any b S (some ⟨w.heap.size,0,none⟩) w.heap.size 0 4 4 #[o,t,n,p] G m r rfl (XD _) dC (X7 ⟨rfl,oM,C⟩)).mono;rintro e E ⟨rfl,q,x⟩;have g:len=0\/(a=some ⟨c,i,none⟩/\c≠b/\Holds encB E c i f):=by
  by_cases z:len=0
  .exact Ye z
  .rcases k with h|⟨y,u,v⟩
   .exact Ye h
   .exact X7 ⟨y,u,Holds.other v q u oM⟩
 go_wp2_with fail
 apply(take_any b _ a c i len cap f E (jL m) x B s l g).mono;rintro e y ⟨rfl,v,u⟩;go_wp2
 go_end0
 refine⟨rfl,(j.trans q).trans v,?_⟩;rw[F.out,mG];exact u
def kN(k:List UInt8)(b:List (List UInt8)):List UInt8:=tY k++b.flatMap tY
def iU(k:List UInt8)(b:List (List UInt8)):Bs:=Le (kN k b)
def bR{k:List UInt8}{b:List (List UInt8)}:(iU k b).size=32:=EF
def BH(k:List UInt8)(b:List (List UInt8))(x:List UInt8):kN k (b++[x])=kN k b++tY x:=by
 unfold kN;rw[List.flatMap_append,<-List.append_assoc];simp
def PartOk(w:XA)(v:XB)(x:List UInt8):Prop:=
 ∃a c b cap k,v=.slice a (Zm k) cap/\k.toList=x/\k.size<=cap/\k.size<=1099511627776/\(k.size=0\/(a=some ⟨c,b,none⟩/\Holds encB w c b k))
def PartOk.below{w c:XA}{v:XB}{x:List UInt8}(h:PartOk w v x)(k:Below w.heap.size w c):PartOk c v x:=by
 obtain⟨a,m,d,cap,f,j,l,g,e,b⟩:=h;refine⟨a,m,d,cap,f,j,l,g,e,?_⟩;rcases b with b|⟨b,i⟩
 .exact Ye b
 .exact X7 ⟨b,Holds.below' i k⟩
def PartsOk(w:XA)(d:Option Y0)(k:List (List UInt8)):Prop:=
 k.length=0\/∃b c,d=some ⟨b,c,none⟩/\∀j,j<k.length->∃v,w.cell? ⟨b,c+j,none⟩=some v/\PartOk w v k[j]!
def PartsOk.below{w b:XA}{g:Option Y0}{e:List (List UInt8)}(h:PartsOk w g e)(k:Below w.heap.size w b):PartsOk b g e:=by
 rcases h with h|⟨f,d,l,n⟩
 .exact Ye h
 .refine X7 ⟨f,d,l,λj m=>?_⟩;obtain⟨v,c,i⟩:=n j m;exact⟨v,by rw[k.cell (p:=⟨f,d+j,none⟩) (ZY _ _ c)];exact c,i.below k⟩
def xG{α:Type}[Inhabited α](l:List α)(k:Nat)(h:k<l.length):l.take (k+1)=l.take k++[l[k]!]:=by
 rw[List.take_succ_eq_append_getElem h,getElem!_pos l k h]
def kO(b:ByteArray)(pa:Option Y0)(F:Nat)(c:List (List UInt8))(w:XA)(h6:b.size<=1048576)(he:c.length<=1048576)(hP:PartsOk w pa c):
 YN prog 46 #[.string b,.slice pa c.length F] w λe w'=>∃r,e=.returned (.slice (some ⟨r,0,none⟩) 32 32)/\w.heap.size<=r/\Below w.heap.size w w'/\Holds encB w' r 0 (iU b.data.toList c):=by
 have x:=Gz w 182;have I:Below w.heap.size w (w.alloc (.cells eU 182)):=(XR _ _).alloc (XD _) _;have C:(w.alloc (.cells eU 182)).heap.size=w.heap.size+1:=by simp
 have zv:=I7;generalize h5:w.alloc (.cells eU 182)=X at x I C;obtain⟨v2,V,u,i,q,Q⟩:=zB (w:=X) (B:=0) b (Zl _);rw[Q]at u i;obtain⟨O,J,D,h3⟩:=i.holds;rw[<-J]at D;clear O J;have f:Holds encB V X.heap.size 0 b.data:=by simpa using h3
 have N:=x.below q x.lt;have h9:=q.size;obtain⟨n,hn⟩:=vH c.length;rw[hn];have L:=mk1 (hn);rw[C]at u f;generalize hg:grownCap X b.size 0 5=c2 at *;have h8:(convert 9 23 (.string b)).run prog (w.alloc (.cells eU 182))=.ok (.slice (some ⟨w.heap.size+1,0,none⟩) b.size c2) V:=by rw[h5];exact u
 go_enter func46,ntmps46;go_wp2_with fail
 apply(qD w.heap.size S0 (some ⟨w.heap.size+1,0,none⟩) (w.heap.size+1) 0 b.size c2 b.data V Do N rfl oM oM (X7 ⟨rfl,oM,f⟩)).mono;rintro e w3 ⟨rfl,h4,H⟩;have Z:=(I.trans (q.mono oM)).trans (h4.below oM (XD _));have ha:=H.lt;go_wp2;go_loopg [13] n (λg s13 wr=>∃(k:Nat) (l:Sp),k+g=n/\s13=.int .i64 k/\HSp wr w.heap.size l/\Below w.heap.size w wr/\Ok l/\Hid (l=gB S0 (kN b.data.toList (c.take k))))
 case atStart =>
  refine⟨0,_,oM,rfl,H,Z,jL Do,?_⟩;rw[List.take_zero];unfold kN;rw[List.flatMap_nil,List.append_nil];rfl
 case round =>
  obtain⟨k,l,hk,rfl,E,m,o,HE⟩:=hrel;by_cases hc:k<n
  .obtain⟨A,z,rfl,G⟩:∃A z,pa=some ⟨A,z,none⟩/\∀j,j<c.length->∃v,w.cell? ⟨A,z+j,none⟩=some v/\PartOk w v c[j]!:=by
    rcases hP with h|h
    .have:=L;omega
    .exact h
   obtain⟨v,t,T⟩:=G k (oN L);have W:=ZY _ _ t;have h7:wr.cell? ⟨A,z+k,none⟩=some v:=by rw[m.cell (p:=⟨A,z+k,none⟩) W];exact t
   obtain⟨a,M,so,cap,y,rfl,K,R,P,d⟩:=T;have s:y.size=0\/(a=some ⟨M,so,none⟩/\M≠w.heap.size/\Holds encB wr M so y):=by
    by_cases Y:y.size=0
    .exact Ye Y
    .rcases d with h|⟨U,S⟩
     .exact Ye h
     .have:=Holds.lt S oM;exact X7 ⟨U,oM,Holds.below S m this⟩
   have HB:Hid (y.toList=c[k]!):=K;have l1:(k:Int)<(n:Int):=oM;generalize Y:y.size=bz at *;clear t d G K;go_wp2_with fail
   apply(qD w.heap.size l a M so bz cap y wr o E Y R P s).mono;rintro e w4 ⟨rfl,S,U⟩;go_wp2;go_roundg (gk-1)
   case measure=>omega
   case rel =>
    refine⟨k+1,_,oM,by go_num,U,m.trans (S.below m.size (XD _)),jL o,?_⟩;rw[xG c k (oN L.out),BH,mG,<-HE.out,HB.out];rfl
  .have M:k=n:=oM;have A:Hid (l=gB S0 (kN b.data.toList c)):=by
    have d:c.take k=c:=yC4 (oN L);rw[d]at HE;exact HE
   go_wp2_with fail
   apply(GN w.heap.size l 6 wr o E).mono;rintro e G ⟨rfl,d,t⟩;have s:Holds enc G w.heap.size 0 (zX (kN b.data.toList c) 6):=by
    have:=t.d;rw[A.out]at this;exact this
   go_wp2_with fail
   apply(tX w.heap.size 0 32 _ _ vJ s dC).mono;rintro e R ⟨rfl,z,y⟩;have P:=d.size;have K:=m.size;go_wp2;go_ret;exact⟨G.heap.size,rfl,oM,(m.trans (d.below m.size (XD _))).trans (z.mono oM),y⟩
end SP
namespace SP
variable {B:Nat}{w w1:XA}{v:XB}{T:List UInt8}
set_option maxRecDepth 4000
end SP
namespace SP
def LQ{w:XA}{b r:Nat}{L T:Bs}(d:Holds encB w b 0 L)(o:L.size=32)(n:Holds encB w r 0 T)(l:T.size=32):
 (yAD #[23,23] 3 #[sZ b 32 32,sZ r 32 32]).run prog w=.ok (goInt 32) (w.setCells b 0 (T.toList.map encB)):=by
 have k:(T.toList.map encB).length=32:=by rw[XZ,XU,l]
 have:=run_copy_cells (P:=prog) w 23 23 3 5 b 0 32 32 (aZ r) 32 32 (T.toList.map encB) slice22 ints5 (by rw[k];rfl)
  (λj u c=>by
   obtain⟨m,f⟩:=XM.1 c;rw[k]at m;have g:=(n j oM).1;rw[getElem!_pos T j oM]at g;rw[yAc,yAi]at f;have i:(⟨r,0,none⟩:Y0).add j=⟨r,0+j,none⟩:=by
    unfold yBT;by_cases e:j=0
    .subst e;rw[yEX rfl]
    .rw[yEY e]
   rw[i,g,f])
  (λj c=>by rw[(d j oM).1];rfl) (λj c=>(d j oM).2)
  (λu e=>by obtain⟨x,_,rfl⟩:=YC.1 e;rfl)
 rw[k]at this;exact this
def BF{w:XA}{b:Nat}{L T:Bs}(c:Holds encB w b 0 L)(g:L.size=32)(e:T.size=32):Holds encB (w.setCells b 0 (T.toList.map encB)) b 0 T:=by
 have k:(T.toList.map encB).length=32:=by rw[XZ,XU,e]
 refine Holds.setCells c (T.toList.map encB) 0 oM oM (λj d=>?_) (λj f i=>oM);rw[k]at d;rw[yAc,yAi,XI,getElem!_pos T j oM]
def Fa{w c:XA}{b:Nat}{L T:Bs}(g:Holds encB w b 0 L)(i:L.size=32)(f:T.size=32)(e:b<w.heap.size)(k:Below w.drew.heap.size w.drew c):
 Only b 0 32 w (c.setCells b 0 (T.toList.map encB))/\Holds encB (c.setCells b 0 (T.toList.map encB)) b 0 T:=by
 have d:(T.toList.map encB).length=32:=by rw[XZ,XU,f]
 refine⟨?_,BF (Holds.below (Holds.drew g) k e) i f⟩;exact Only.setCells (((Only.refl b 0 32 w).drew).trans (Only.of_below k rfl e)) _ 0 (XD _) oM
def rA(b:Nat)(L:Bs)(k:ByteArray)(p:Option Y0)(c n:Nat)(g:List (List UInt8))(w:XA)(d:k.size<=1048576)(m:g.length=n)(y:n<=1048576)(v:PartsOk w p g)(l:Holds encB w b 0 L)(q:L.size=32):
 YN prog 186 #[.pointer (some ⟨b,0,none⟩),.string k,.slice p n c] w λe w'=>e=.returned (.tuple #[])/\Only b 0 32 w w'/\Holds encB w' b 0 (iU k.data.toList g):=by
 subst m;have s:=Holds.lt l oM;have r:=kO k p c g w.drew d y (v.below ((XR _ _).drew));generalize x:iU k.data.toList g=T at r⊢;have i:T.size=32:=by rw[<-x,bR]
 have z:=mk1 (r);go_enter func186,ntmps186;go_wp2;go_region_with (go_at_call 46;refine Calls.mono z ?_;rintro e A ⟨a,rfl,t,f,o⟩;have u:=LQ (Holds.below (Holds.drew l) f s) q o i;have j:=Fa l q i s f)
 all_goals (try go_wp2)
 all_goals go_end0
 all_goals exact⟨rfl,j⟩
def encV(v:XB):XB:=v
def Ap{l:List UInt8}{n:Nat}:(kX l n).size=n:=by rw[kX,mH]
def newL(k:List UInt8):Bs:=iU [108,111,103] [k]
def vQ(L:Bs)(k b:List UInt8):Bs:=iU [115,97,121] [L.toList,k,b]
def Dk(L:Bs)(k:List UInt8)(n:Nat):Bs:=kX (iU [97,115,107] [L.toList,k]).toList n
def uH(L:Bs)(k:List UInt8):Bs:=iU [97,115,107,101,100] [L.toList,k]
def AH{l:List UInt8}:(newL l).size=32:=bR
def lC{L:Bs}{l t:List UInt8}:(vQ L l t).size=32:=bR
def aY{L:Bs}{l:List UInt8}:(uH L l).size=32:=bR
def IZ{L:Bs}{l:List UInt8}{n:Nat}:(Dk L l n).size=n:=Ap
def pO(s:ByteArray)(w:XA)(p:s.size<=1099511627776):
 ∃c w',(convert 9 23 (.string s)).run prog w=.ok (.slice (some ⟨w.heap.size,0,none⟩) s.size c) w'/\s.size<=c/\Holds encB w' w.heap.size 0 s.data/\PartOk w' (.slice (some ⟨w.heap.size,0,none⟩) s.size c) s.data.toList/\Below w.heap.size w w'/\w.heap.size<w'.heap.size:=by
 obtain⟨v2,l,f,k,j,o⟩:=zB (w:=w) (B:=0) s (Zl _);rw[o]at f k;have m:w.heap.size<l.heap.size:=by
  obtain⟨g,cap,cur,b,_,d,_⟩:=k;injection b with b
  injection b with b
  injection b with b
  omega
 obtain⟨q,i,b,n⟩:=k.holds;rw[<-i]at b;have d:Holds encB l w.heap.size 0 s.data:=by simpa using n
 have e:=b;exact⟨_,l,f,e,d,⟨_,w.heap.size,0,_,s.data,rfl,rfl,e,p,X7 ⟨rfl,d⟩⟩,j,m⟩
def oY(W:XA)(vs:Array XB)(k:List (List UInt8))(t:Yd)(d:vs.size=k.length)(h:∀j,j<k.length->PartOk W vs[j]! k[j]!):
 PartsOk (W.alloc (.cells vs t)) (some (aZ W.heap.size)) k:=by
 refine X7 ⟨W.heap.size,0,rfl,λj c=>⟨vs[j]!,?_,(h j c).below ((XR _ _).alloc (XD _) _)⟩⟩;have b:vs.map encV=vs:=by
  have:encV=id:=rfl;rw[this,Array.map_id]
 have:=(Holds.new (enc:=encV) W t vs j oM).1;rw[b]at this;exact this
def rN{w:XA}{b:Nat}{L:Bs}(k:Holds encB w b 0 L)(c:L.size=32):PartOk w (sZ b 32 32) L.toList:=
 ⟨_,b,0,32,L,by rw[c],rfl,oM,oM,X7 ⟨rfl,k⟩⟩
def MN:∀w:XA,(zeroValue 272).run prog w=.ok (.agg (XT 32 (.int .u8 0))) w:=λ_=>kR
def Ft(k:ByteArray)(w:XA)(v:k.size<=1048576):
 YN prog 205 #[.string k] w λe w'=>e=.returned (.pointer (some ⟨w.heap.size,0,none⟩))/\Below w.heap.size w w'/\Holds encB w' w.heap.size 0 (newL k.data.toList):=by
 have A:=MN;have q:Holds encB (w.alloc (.cells (XT 32 (.int .u8 0)) 272)) w.heap.size 0 (XT 32 0):=by
  have:=Holds.new (enc:=encB) w 272 (XT 32 0);rw[yDk]at this;exact this
 have s:Below w.heap.size w (w.alloc (.cells (XT 32 (.int .u8 0)) 272)):=(XR _ _).alloc (XD _) _;have u:(w.alloc (.cells (XT 32 (.int .u8 0)) 272)).heap.size=w.heap.size+1:=by simp
 obtain⟨c,n,t,a,x,r,f,l⟩:=pO k (w.alloc (.cells (XT 32 (.int .u8 0)) 272)) oM;have i:=Holds.below' q f;have g:=oY n #[.slice (some ⟨(w.alloc (.cells (XT 32 (.int .u8 0)) 272)).heap.size,0,none⟩) k.size c] [k.data.toList] 23 rfl (λj y=>by
  have b:j=0:=by simpa using y
  subst b;exact r)
 have d:Below n.heap.size n (n.alloc (.cells #[.slice (some ⟨(w.alloc (.cells (XT 32 (.int .u8 0)) 272)).heap.size,0,none⟩) k.size c] 23)):=(XR _ _).alloc (XD _) _;have b:=Holds.below' i d;rw[u]at t g d b l;have m:=(s.trans (f.mono oM)).trans (d.mono oM);go_enter func205,ntmps205;go_wp2_with fail
 apply(rA w.heap.size (XT 32 0) ⟨#[108,111,103]⟩ (some ⟨n.heap.size,0,none⟩) 1 1 [k.data.toList] _ dC rfl dC g b (by simp)).mono;rintro e z ⟨rfl,p,o⟩;go_wp2;go_ret;exact⟨rfl,m.trans (p.below m.size (XD _)),o⟩
def B8(b:Nat)(L:Bs)(k:ByteArray)(n:Option Y0)(i m:Nat)(d:List UInt8)(w:XA)(y:k.size<=1048576)(z:Holds encB w b 0 L)(x:L.size=32)(C:PartOk w (.slice n i m) d):
 YN prog 134 #[.pointer (some ⟨b,0,none⟩),.string k,.slice n i m] w λe w'=>e=.returned (.tuple #[])/\Only b 0 32 w w'/\Holds encB w' b 0 (vQ L k.data.toList d):=by
 have a:=Holds.lt z oM;obtain⟨c,g,D,G,B,q,f,A⟩:=pO k w oM;have l:=Holds.below z f a;have u:=C.below f;have r:=oY g #[.slice (some ⟨b,0,none⟩) 32 32,.slice (some ⟨w.heap.size,0,none⟩) k.size c,.slice n i m] [L.toList,k.data.toList,d] 23 rfl (λj E=>by
  have o:j<3:=E;match j,o with
  | 0,_=>exact rN l x
  | 1,_=>exact q
  | 2,_=>exact u)
 have s:Below g.heap.size g (g.alloc (.cells #[.slice (some ⟨b,0,none⟩) 32 32,.slice (some ⟨w.heap.size,0,none⟩) k.size c,.slice n i m] 23)):=(XR _ _).alloc (XD _) _;have t:=Holds.below' l s;have v:Only b 0 32 w (g.alloc (.cells #[.slice (some ⟨b,0,none⟩) 32 32,.slice (some ⟨w.heap.size,0,none⟩) k.size c,.slice n i m] 23)):=(Only.of_below f rfl a).alloc oM _;go_enter func134,ntmps134;go_wp2_with fail
 apply(rA b L ⟨#[115,97,121]⟩ (some ⟨g.heap.size,0,none⟩) 3 3 [L.toList,k.data.toList,d] _ dC rfl dC r t x).mono;rintro e F ⟨rfl,p,o⟩;go_wp2
 go_end0
 exact⟨rfl,v.trans p,o⟩
def Pj(b:Nat)(L:Bs)(k:ByteArray)(n:Nat)(w:XA)(W:k.size<=1048576)(hn:n<=1024)(X:Holds encB w b 0 L)(J:L.size=32):
 YN prog 215 #[.pointer (some ⟨b,0,none⟩),.string k,.int .i64 n] w λe w'=>∃r,e=.returned (.tuple #[.slice (some ⟨r,0,none⟩) n n,.int .i64 0])/\w.heap.size<=r/\Only b 0 32 w w'/\Holds encB w' b 0 (uH L k.data.toList)/\Holds encB w' r 0 (Dk L k.data.toList n):=by
 have N:=Holds.lt X oM;obtain⟨c,l,h9,hc,O,q,m,Z⟩:=pO k w oM;have d:=Holds.below X m N;have s:=oY l #[.slice (some ⟨b,0,none⟩) 32 32,.slice (some ⟨w.heap.size,0,none⟩) k.size c] [L.toList,k.data.toList] 23 rfl (λj B=>by
  have g:j<2:=B;match j,g with
  | 0,_=>exact rN d J
  | 1,_=>exact q)
 have u:Below l.heap.size l (l.alloc (.cells #[.slice (some ⟨b,0,none⟩) 32 32,.slice (some ⟨w.heap.size,0,none⟩) k.size c] 23)):=(XR _ _).alloc (XD _) _;have x:=Holds.below' d u;have A:Only b 0 32 w (l.alloc (.cells #[.slice (some ⟨b,0,none⟩) 32 32,.slice (some ⟨w.heap.size,0,none⟩) k.size c] 23)):=(Only.of_below m rfl N).alloc oM _;have d0:decide ((n:Int)<0)=false:=decide_eq_false oM;have d1:¬(1024:Int)<(n:Int):=oM;clear O q u;go_enter func215,ntmps215;go_wp2_with fail
 refine(kO ⟨#[97,115,107]⟩ (some ⟨l.heap.size,0,none⟩) 2 [L.toList,k.data.toList] _ dC (by show 2<=1048576;omega) s).mono ?_;rintro e w3 ⟨r3,rfl,h6,y,R⟩;have M:=Holds.below' x y;have v:=A.trans (Only.of_below y rfl (XC N A.size));clear s x d;go_wp2_with fail
 apply(zY (some ⟨r3,0,none⟩) r3 0 32 32 n _ _ oM bR oM oM (X7 ⟨rfl,R⟩)).mono;rintro e z ⟨E,rfl,ha,C,G⟩;have T:=Holds.below' M C;have h5:=v.size;have p:=v.trans (Only.of_below C rfl oM);have K:Holds encB z E 0 (Dk L k.data.toList n):=G;have h4:=p.size;obtain⟨I,i,Y,h8,h7,V,f,h0⟩:=pO k z oM;have t:=Holds.below' T f;have P:=Holds.below' K f;have a:=oY i #[.slice (some ⟨b,0,none⟩) 32 32,.slice (some ⟨z.heap.size,0,none⟩) k.size I] [L.toList,k.data.toList] 23 rfl (λj B=>by
  have g:j<2:=B;match j,g with
  | 0,_=>exact rN t J
  | 1,_=>exact V)
 have g:Below i.heap.size i (i.alloc (.cells #[.slice (some ⟨b,0,none⟩) 32 32,.slice (some ⟨z.heap.size,0,none⟩) k.size I] 23)):=(XR _ _).alloc (XD _) _;have Q:=Holds.below' t g;have F:=Holds.below' P g;have S:Only b 0 32 w (i.alloc (.cells #[.slice (some ⟨b,0,none⟩) 32 32,.slice (some ⟨z.heap.size,0,none⟩) k.size I] 23)):=p.trans ((Only.of_below f rfl oM).alloc oM _);go_wp2_with fail
 apply(rA b L ⟨#[97,115,107,101,100]⟩ (some ⟨i.heap.size,0,none⟩) 2 2 [L.toList,k.data.toList] _ dC rfl dC a Q J).mono;rintro e w7 ⟨rfl,D,H⟩;have U:Holds encB w7 E 0 (Dk L k.data.toList n):=by
  intro j B;have h1:=F j B;have h2:=ZY _ _ h1.1;have h3:=D.other (c:=E) (o:=0+j) oM h2;rw[h3.1,h3.2];exact h1
 go_wp2
 go_ret2
 exact⟨E,rfl,oM,S.trans D,H,U⟩
end SP
section
structure FiL(s:Nat)(w W:XA)(K n i:Nat)(C:Nat->List XB):Prop where
 bl:kZ w W
 kl:w.heap.size<=K
 lt:K<W.heap.size
 th:W.there K 0 (s*n)
 at_:∀j,j<i->W.rangeAt K (s*j) (C j)
section
variable {s:Nat}{w W W':XA}{K n i:Nat}{C:Nat->List XB}{C0:List XB}{T:Yd}
def FiL.new(k:Hid (w.heap.size=K))(d:Hid (w.alloc (.cells C0.toArray T)=W))(b:C0.length=s*n):FiL s w W K n 0 C:=by
 have h:=(aK k d).out;exact⟨h.1,k.out▸XD _,h.2.1,b ▸ h.2.2.2,λj c=>absurd c (ZP _)⟩
def FiL.grow(h:FiL s w W K n i C)(b:kZ W W'):FiL s w W' K n i C:=by
 have e:=b.block K h.lt;refine⟨h.bl.trans (b.mono h.bl.size),h.kl,XC h.lt b.size,λj k=>?_,λj k r u c=>?_⟩
 .have:=h.th j k;unfold YZ Zk at this⊢;rw[e];exact this
 .exact(X4 e).trans (h.at_ j k r u c)
def FiL.put(h:FiL s w W K n i C)(f:i<n)(g:(C i).length=s)(c:∀j,j<i->(C j).length=s)(e:Hid (W.setCells K (s*i) (C i)=W')):W.there K (s*i) (C i).length/\FiL s w W' K n (i+1) C:=by
 have th:W.there K (s*i) (C i).length:=λj d=>by
  have b:s*(i+1)<=s*n:=yAY s f;have:=h.th (s*i+j) (by rw[yBA]at b;omega);rw[XI]at this;exact this
 rw[<-e.out];refine⟨th,RG.below_setCells h.kl _ _ _ h.bl,h.kl,by rw[setCells_size];exact h.lt,World.there_setCells h.th _ _ _,λj d=>?_⟩;by_cases k:j<i
 .have b:s*(j+1)<=s*i:=yAY s k;exact World.rangeAt_setCells_apart (h.at_ j k) _ _ _ (X7 (Ye (by rw[c j k];rw[yBA]at b;exact b)))
 .obtain rfl:j=i:=oM;exact World.rangeAt_setCells_same _ _ _ _ th
end
end
section
def VC{g n c i:Nat}{w:XA}(d:i<n):(Yv 27 (sZ g n c) (iZ i)).run prog w=.ok (oZ g i) w:=by
 have k:¬(i:Int)<0:=oM;have b:(i:Int)<(n:Int):=oM;go_simp
def Xp{g n i:Nat}{w:XA}(c:i<n):(Yv 138 (sZ g n n) (iZ i)).run prog w=.ok (oZ g (8*i)) w:=by
 have k:¬(i:Int)<0:=oM;have b:(i:Int)<(n:Int):=oM;go_simp
def Xo{g n i:Nat}{w:XA}(c:i<n):(Yv 127 (sZ g n n) (iZ i)).run prog w=.ok (oZ g (4*i)) w:=by
 have k:¬(i:Int)<0:=oM;have b:(i:Int)<(n:Int):=oM;go_simp
def uBb:wZ 23:=wQ
def uGp:yZ 131:=yQ
def iGp:gZ 131 8:=gQ
def uNb:yZ 42:=yQ
def iNb:gZ 42 4:=gQ
variable {P:Nat}[NeZero P]
def ArgsPts(w:XA)(q:Option Y0)(n:Nat)(L:Nat->Bs):Prop:=0<n->∃k,q=some (aZ k)/\k<w.heap.size/\∀j,j<n->∃v,w.cell? ⟨k,j,none⟩=some v/\Arg33 w v (L j)
def Xu(P:Nat)[NeZero P](w:XA)(n:Nat)(L:Nat->Bs)(e:XB)(w':XA):Prop:=
 (∃k,w.heap.size<=k/\k<w'.heap.size/\e=.tuple #[sZ k n n,iZ 0]/\∀j,j<n->∃p,rd P (L j)=some p/\w'.rangeAt k (8*j) (ws p.1++ws p.2)) \/
 ((∃j,j<n/\rd P (L j)=none)/\e=.tuple #[nZ,iZ 4])
def VP(W:Fld P)(n cap:Nat)(hn:n<=512)(q:Option Y0)(L:Nat->Bs)(w:XA)(R:ArgsPts w q n L):YN prog 111 #[.slice q n cap] w (rZ w λe w'=>Xu P w n L e w'):=by
 obtain⟨C0,z,u⟩:=Uz (N:=n) hn;refine hG w.heap.size λK M=>?_
 refine hG (w.alloc (.cells C0.toArray 131)) λw1 f=>?_
 have mk:=u w;rw[M.out,f.out]at mk;obtain⟨D,O⟩:=hE (λj=>match rd P (L j) with|some p=>ws p.1++ws p.2|none=>[]);have o:Hid (∀j p,rd P (L j)=some p->D j=ws p.1++ws p.2):=λj p h=>by rw[<-O.out];show(match rd P (L j) with|some p=>ws p.1++ws p.2|none=>[])=_;rw[h]
 have U:=mk1 (FiL.new (C:=D) M f z);have HA:=mk1 R;clear u O R z M f;go_enter func111,ntmps111;refine PW.rg [.slice none 0 0,iZ 0] ?_;refine PW.bg [iZ n] ?_;refine PW.ns mk ?_;refine PW.en [sZ K n n] ?_;refine XG<|PW.rg [iZ n,iZ 0] ?_
 apply YX;go_loopg [14] n (λgk s14 wr=>∃i:Nat,i+gk=n/\s14=iZ i/\Hid (FiL 8 w wr K n i D/\∀j,j<i->∃p,rd P (L j)=some p))
 case atStart=>exact⟨0,oM,rfl,U,λj m=>absurd m (ZP _)⟩
 case round =>
  clear U;obtain⟨i,h0,rfl,F⟩:=hrel;refine PW.rg [.bool (decide ((i:Int)<(n:Int)))] ?_;by_cases x:i<n
  .have l:(i:Int)<(n:Int):=oM;rw[decide_eq_true l];have E:Ya.wrap ((i:Int)+1)=((i+1:Nat):Int):=by rw[YD];omega
   obtain⟨g,rfl,hg,V⟩:=HA oM;obtain⟨v,hv,t⟩:=V i x;have a:=(F.1.bl.cell (p:=⟨g,i,none⟩) hg).trans hv;have Z:=uN W (k:=(L i)) (w:=wr) (t.below F.1.bl);obtain⟨X,n1,c1,rfl,-⟩:=id t;refine XG<|Yy rfl<|YU<|XG<|YX<|PW.bg [] ?_
   refine PW.ns (VC (g:=g) (n:=n) (c:=cap) (i:=i) x (w:=wr)) ?_;refine PW.ce a uBb ?_;refine PW.en [iZ i,.slice X n1 c1] ?_;clear a V;refine PW.bg [] ?_;refine PW.gi Z λr Y=>?_
   have s:=mk2 (F.1.grow Y) F.2;cases G:rd P (L i) with
   | none =>
    obtain⟨vz,k⟩:=hE (X9 (ws (0:Fin P)++ws (0:Fin P)).toArray);refine hG r.heap.size λN c=>?_
    refine hG (r.alloc (.cells (wn 0++wn 0).toArray 131)) λH d=>?_
    refine hG (H.setCells N 0 (ws (0:Fin P)++ws (0:Fin P))) λJ b=>?_
    have A:=mk1 ((Mp.start r).new c d);have B:=mk1 (A.put 0 b);refine PW.go [.agg (ws (0:Fin P)++ws (0:Fin P)).toArray,.bool false] ?_;rw[k.out];refine PW.al c d ?_;refine PW.st b k (A.th 0) iGp kR ?_;refine PW.en [.bool false] ?_;refine XG<|PW.rg [.bool true] ?_
    refine Yy rfl<|PW.rg [.slice none 0 0,iZ 4] ?_
    refine Za<|XN (dJ 2 3 rfl rfl rfl) rfl ?_
    exact⟨_,rfl,s.1.bl.trans (B.bl.mono s.1.bl.size),X7 ⟨⟨i,x,G⟩,rfl⟩⟩
   | some p =>
    have I:=o i p G;obtain⟨vz,k⟩:=hE (X9 (ws p.1++ws p.2).toArray);refine hG r.heap.size λN c=>?_
    refine hG (r.alloc (.cells (wn 0++wn 0).toArray 131)) λH d=>?_
    refine hG (H.setCells N 0 (ws p.1++ws p.2)) λJ b=>?_
    refine hG (J.setCells K (8*i) (ws p.1++ws p.2)) λS y=>?_
    have A:=mk1 ((Mp.start r).new c d);have B:=mk1 (A.put 0 b);have Q:=s.1.grow B.bl;obtain⟨th,T⟩:=Q.put x (by rw[I];rfl) (λj m=>by obtain⟨p,h⟩:=s.2 j m;rw[o.out j p h];rfl) (W':=S) (by rw[I];exact y);rw[I]at th;have FF:Hid (FiL 8 w S K n (i+1) D/\∀j,j<i+1->∃p,rd P (L j)=some p):=⟨T,λj m=>by
     by_cases h:j<i
     .exact s.2 j h
     .obtain rfl:j=i:=oM;exact⟨p,G⟩⟩
    clear T Q F s;refine PW.go [.agg (ws p.1++ws p.2).toArray,.bool true] ?_;rw[k.out];refine PW.al c d ?_;refine PW.st b k (A.th 0) iGp kR ?_;refine PW.en [.bool true] ?_;refine XG<|PW.rg [.bool false] ?_
    refine Yb rfl<|YU<|PW.bb [] ?_
    refine PW.ro (B.at_ 0).2.1 k uGp iGp ?_;refine PW.ns (Xp (g:=K) (n:=n) (i:=i) x (w:=J)) ?_;refine PW.st y k th iGp kR ?_;refine PW.dn ?_;refine PW.bb [iZ (Ya.wrap ((i:Int)+1))] ?_;rw[E];go_wp2;go_roundg (gk-1)
    case measure=>omega
    case rel=>exact⟨i+1,oM,rfl,FF⟩
  .have l:¬(i:Int)<(n:Int):=oM;obtain rfl:i=n:=oM;rw[decide_eq_false l];refine XG<|Yb rfl<|yAC<|PW.rg (P:=prog) [sZ K i i,iZ 0] ?_
   refine Za<|XN (dJ 2 3 rfl rfl rfl) rfl ?_
   refine⟨_,rfl,F.1.bl,Ye ⟨K,F.1.kl,F.1.lt,rfl,λj m=>?_⟩⟩;obtain⟨p,k⟩:=F.2 j m;refine⟨p,k,?_⟩;have:=F.1.at_ j m;rw[o.out j p k]at this;exact this
def wT(w:XA)(q:Option Y0)(n:Nat)(L:Nat->Bs):Prop:=0<n->∃k,q=some (aZ k)/\k<w.heap.size/\∀j,j<n->∃v,w.cell? ⟨k,j,none⟩=some v/\Arg w v (L j)
def Xt(N:Nat)(w:XA)(n:Nat)(L:Nat->Bs)(e:XB)(w':XA):Prop:=
 (∃k,w.heap.size<=k/\k<w'.heap.size/\e=.tuple #[sZ k n n,iZ 0]/\∀j,j<n->∃p,rq N (L j)=some p/\w'.rangeAt k (4*j) (wn p)) \/
 ((∃j,j<n/\rq N (L j)=none)/\e=.tuple #[nZ,iZ 3])
def Qp{N:Nat}(H:Gap 4624529908474429119 4994812053365940164 1 N)(n cap:Nat)(hn:n<=512)(q:Option Y0)(L:Nat->Bs)(w:XA)(U:wT w q n L):YN prog 65 #[.slice q n cap] w (rZ w λe w'=>Xt N w n L e w'):=by
 obtain⟨C0,z,u⟩:=WH (N:=n) hn;refine hG w.heap.size λK Q=>?_
 refine hG (w.alloc (.cells C0.toArray 42)) λw1 f=>?_
 have mk:=u w;rw[Q.out,f.out]at mk;obtain⟨D,S⟩:=hE (λj=>match rq N (L j) with|some p=>wn p|none=>[]);have o:Hid (∀j p,rq N (L j)=some p->D j=wn p):=λj p h=>by rw[<-S.out];show(match rq N (L j) with|some p=>wn p|none=>[])=_;rw[h]
 have Y:=mk1 (FiL.new (C:=D) Q f z);have HA:=mk1 U;have HS:=mk1 iD;clear u S U z Q f;go_enter func65,ntmps65;refine PW.rg [.slice none 0 0,iZ 0] ?_;refine PW.bg [iZ n] ?_;refine PW.ns mk ?_;refine PW.en [sZ K n n] ?_;refine XG<|PW.rg [iZ n,iZ 0] ?_
 apply YX;go_loopg [14] n (λgk s14 wr=>∃i:Nat,i+gk=n/\s14=iZ i/\Hid (FiL 4 w wr K n i D/\∀j,j<i->∃p,rq N (L j)=some p))
 case atStart=>exact⟨0,oM,rfl,Y,λj m=>absurd m (ZP _)⟩
 case round =>
  clear Y;obtain⟨i,h0,rfl,F⟩:=hrel;refine PW.rg [.bool (decide ((i:Int)<(n:Int)))] ?_;by_cases x:i<n
  .have l:(i:Int)<(n:Int):=oM;rw[decide_eq_true l];have E:Ya.wrap ((i:Int)+1)=((i+1:Nat):Int):=by rw[YD];omega
   obtain⟨g,rfl,hg,hc⟩:=HA oM;obtain⟨v,hv,t⟩:=hc i x;have a:=(F.1.bl.cell (p:=⟨g,i,none⟩) hg).trans hv;have HR:=λ(W:XA) (I:kZ wr W)=>FQ H (c:=(L i)) (w:=W) ((t.below F.1.bl).below I)
   obtain⟨q1,n1,c1,rfl,-⟩:=id t;refine XG<|Yy rfl<|YU<|XG<|YX<|PW.bg [] ?_
   refine PW.ns (VC (g:=g) (n:=n) (c:=cap) (i:=i) x (w:=wr)) ?_;refine PW.ce a uBb ?_;refine PW.en [iZ i,.slice q1 n1 c1] ?_;clear a hc;refine PW.bg [] ?_;refine PW.gi (HS wr) λwa Z=>?_
   refine PW.go [] ?_;refine PW.gi (HR wa Z) λr I=>?_
   have s:=mk2 ((F.1.grow Z).grow I) F.2;cases G:rq N (L i) with
   | none =>
    obtain⟨vz,k⟩:=hE (X9 (wn 0).toArray);refine hG r.heap.size λR c=>?_
    refine hG (r.alloc (.cells (wn 0).toArray 42)) λJ d=>?_
    refine hG (J.setCells R 0 (wn 0)) λO b=>?_
    have A:=mk1 ((Mp.start r).new c d);have B:=mk1 (A.put 0 b);refine PW.go [.agg (wn 0).toArray,.bool false] ?_;rw[k.out];refine PW.al c d ?_;refine PW.st b k (A.th 0) iNb kR ?_;refine PW.en [.bool false] ?_;refine XG<|PW.rg [.bool true] ?_
    refine Yy rfl<|PW.rg [.slice none 0 0,iZ 3] ?_
    refine Za<|XN (dJ 2 3 rfl rfl rfl) rfl ?_
    exact⟨_,rfl,s.1.bl.trans (B.bl.mono s.1.bl.size),X7 ⟨⟨i,x,G⟩,rfl⟩⟩
   | some p =>
    have M:=o i p G;obtain⟨vz,k⟩:=hE (X9 (wn p).toArray);refine hG r.heap.size λR c=>?_
    refine hG (r.alloc (.cells (wn 0).toArray 42)) λJ d=>?_
    refine hG (J.setCells R 0 (wn p)) λO b=>?_
    refine hG (O.setCells K (4*i) (wn p)) λV y=>?_
    have A:=mk1 ((Mp.start r).new c d);have B:=mk1 (A.put 0 b);have T:=s.1.grow B.bl;obtain⟨th,X⟩:=T.put x (by rw[M];rfl) (λj m=>by obtain⟨p,h⟩:=s.2 j m;rw[o.out j p h];rfl) (W':=V) (by rw[M];exact y);rw[M]at th;have FF:Hid (FiL 4 w V K n (i+1) D/\∀j,j<i+1->∃p,rq N (L j)=some p):=⟨X,λj m=>by
     by_cases h:j<i
     .exact s.2 j h
     .obtain rfl:j=i:=oM;exact⟨p,G⟩⟩
    clear X T F s;refine PW.go [.agg (wn p).toArray,.bool true] ?_;rw[k.out];refine PW.al c d ?_;refine PW.st b k (A.th 0) iNb kR ?_;refine PW.en [.bool true] ?_;refine XG<|PW.rg [.bool false] ?_
    refine Yb rfl<|YU<|PW.bb [] ?_
    refine PW.ro (B.at_ 0).2.1 k uNb iNb ?_;refine PW.ns (Xo (g:=K) (n:=n) (i:=i) x (w:=O)) ?_;refine PW.st y k th iNb kR ?_;refine PW.dn ?_;refine PW.bb [iZ (Ya.wrap ((i:Int)+1))] ?_;rw[E];go_wp2;go_roundg (gk-1)
    case measure=>omega
    case rel=>exact⟨i+1,oM,rfl,FF⟩
  .have l:¬(i:Int)<(n:Int):=oM;obtain rfl:i=n:=oM;rw[decide_eq_false l];refine XG<|Yb rfl<|yAC<|PW.rg (P:=prog) [sZ K i i,iZ 0] ?_
   refine Za<|XN (dJ 2 3 rfl rfl rfl) rfl ?_
   refine⟨_,rfl,F.1.bl,Ye ⟨K,F.1.kl,F.1.lt,rfl,λj m=>?_⟩⟩;obtain⟨p,k⟩:=F.2 j m;refine⟨p,k,?_⟩;have:=F.1.at_ j m;rw[o.out j p k]at this;exact this
end
omit [NeZero P] in
theorem Ja(x y:Fin P):∃a b c d p q r s:Nat,pv x y=.agg #[uZ a,uZ b,uZ c,uZ d,uZ p,uZ q,uZ r,uZ s]/\ws x++ws y=[uZ a,uZ b,uZ c,uZ d,uZ p,uZ q,uZ r,uZ s]:=
 ⟨_,_,_,_,_,_,_,_,rfl,rfl⟩
def MH(c:Int)(e:XB):Prop:=e=.tuple #[nZ,iZ c]
def I1(w:XA)(T:Bs)(e:XB)(w':XA):Prop:=∃g cap,e=.tuple #[sZ g 33 cap,iZ 0]/\33<=cap/\w.heap.size<=g/\g<w'.heap.size/\hZ w' g 0 T
def CY(C:Fld P)(v:XB)(f:Bs)(w:XA)(hv:Arg33 w v f):cZ 103 #[v] w (rZ w λe w'=>e=.bool (rd P f).isSome):=by
 have j:∃(c b1 c1 k p1 b d s1:Nat),cZ 156 #[v] w (rZ w λe w'=>e=.tuple #[.agg #[uZ c,uZ b1,uZ c1,uZ k,uZ p1,uZ b,uZ d,uZ s1],.bool (rd P f).isSome]):=by
  have h:=uN C hv;cases g:rd P f with
  | none =>
   obtain⟨c,b1,c1,k,p1,b,d,s1,i,-⟩:=Ja (0:Fin P) 0;refine⟨c,b1,c1,k,p1,b,d,s1,?_⟩;rw[g]at h;rw[<-i];exact h
  | some p =>
   obtain⟨c,b1,c1,k,p1,b,d,s1,i,-⟩:=Ja p.1 p.2;refine⟨c,b1,c1,k,p1,b,d,s1,?_⟩;rw[g]at h;rw[<-i];exact h
 obtain⟨c,b1,c1,k,p1,b,d,s1,j⟩:=j;obtain⟨q,n,cap,rfl,-⟩:=hv;go_enter func103,ntmps103;go_wp2_with fail
 refine j.mono ?_;rintro e l ⟨v,rfl,g,rfl⟩;have i:=mk1 (g);go_wp2;go_ret;exact⟨_,rfl,i.alloc i.size _,rfl⟩
structure PS(w:XA)(k:Nat)(a1 b1 c1 d1 p1 q1 r1 s1 a2 b2 c2 d2 p2 q2 r2 s2:Nat)(W:XA):Prop where
 r1:W.rangeAt k 0 [uZ a1,uZ b1,uZ c1,uZ d1,uZ p1,uZ q1,uZ r1,uZ s1]
 r2:W.rangeAt k 8 [uZ a2,uZ b2,uZ c2,uZ d2,uZ p2,uZ q2,uZ r2,uZ s2]
 lt:k<W.heap.size
 bl:kZ w W
def ptP(s:T3 P):Fin P × Fin P:=(s.1*(inv s.2.2*inv s.2.2),s.2.1*(inv s.2.2*inv s.2.2)*inv s.2.2)
def cell_below{w b:XA}{k j:Nat}{v:XB}(h:w.cell? ⟨k,j,none⟩=some v)(f:kZ w b)(d:k<w.heap.size):b.cell? ⟨k,j,none⟩=some v:=by
 have e:w.rangeAt k j [v]:=λi u c=>by
  cases i with
  | zero =>
   obtain rfl:v=u:=XX.inj c;exact h
  | succ i=>exact absurd c (by simp)
 exact RG.range_below e f d 0 v rfl
def ArgsPts.below{w c:XA}{q:Option Y0}{n:Nat}{L:Nat->Bs}(h:ArgsPts w q n L)(b:kZ w c):ArgsPts c q n L:=λf=>by
 obtain⟨g,e,k,d⟩:=h f;refine⟨g,e,XC k b.size,λj l=>?_⟩;obtain⟨v,hv,i⟩:=d j l;exact⟨v,cell_below hv b k,i.below b⟩
def SumR(P:Nat)[NeZero P](N:Nat)(w:XA)(n a:Nat)(L M:Nat->Bs)(e:XB)(w':XA):Prop:=
 (n≠a/\MH 2 e)\/(n=a/\512<n/\MH 1 e)\/(n=a/\n<=512/\(((∃j,j<n/\rq N (L j)=none)/\MH 3 e) \/
  ∃ns:Nat->Nat,(∀j,j<n->rq N (L j)=some (ns j))/\(((∃j,j<n/\rd P (M j)=none)/\MH 4 e) \/
   ∃xs ys:Nat->Fin P,(∀j,j<n->rd P (M j)=some (xs j,ys j))/\I1 w (uE (ptP (iW ns xs ys n 257)).1 (ptP (iW ns xs ys n 257)).2) e w')))
def zD{A:Type}[Inhabited A]{n:Nat}{p:Nat->A->Prop}(h:∀j,j<n->∃a,p j a):∃f:Nat->A,∀j,j<n->p j (f j):=
 ⟨λj=>if k:j<n then(h j k).choose else default,λj k=>by
  show p j (if k:j<n then(h j k).choose else default);rw[dif_pos k];exact(h j k).choose_spec⟩
def xO{N:Nat}(b:N<=top){k:Bs}{m:Nat}(h:rq N k=some m):m<top:=by
 unfold rq at h;split at h
 .rename_i h1
  obtain rfl:beV k.toList=m:=XX.inj h;exact XC h1.2 b
 .exact absurd h (by simp)
def SA{N:Nat}(C:Fld P)(hG:Gap 4624529908474429119 4994812053365940164 1 N)(hN:N<=top)(q R:Option Y0)(n cap a o:Nat)(L M:Nat->Bs)(w:XA)(hL:wT w q n L)(hM:ArgsPts w R a M):
 cZ 64 #[.slice q n cap,.slice R a o] w (rZ w λe w'=>SumR P N w n a L M e w'):=by
 have HL:=mk1 (hL);have HM:=mk1 (hM);by_cases H:n=a
 .subst H;by_cases F:512<n
  .go_enter func64,ntmps64;go_wp2
   go_ret2
   exact⟨_,rfl,XR _ _,X7 (Ye ⟨rfl,F,rfl⟩)⟩
  .have y:n<=512:=oM;go_enter func64,ntmps64;go_wp2_with fail
   apply(Qp hG n cap y q L w HL).mono;rintro e O ⟨v,rfl,A,⟨k,Q,r,rfl,c⟩|⟨u,rfl⟩⟩
   .obtain⟨ns,G⟩:=zD c;have x:=mk1 (A);have V:Hid (k<O.heap.size/\∀j,j<n->O.rangeAt k (4*j) (wn (ns j))):=⟨r,λj l=>(G j l).2⟩
    have HN:Hid (∀j,j<n->rq N (L j)=some (ns j)):=λj l=>(G j l).1
    go_wp2_with fail
    apply(VP C n o y R M O (HM.below x)).mono;rintro e p ⟨v,rfl,f,⟨K,Q,r,rfl,c⟩|⟨u,rfl⟩⟩
    .obtain⟨b,J⟩:=zD c;have d:=mk1 (x.trans (f.mono x.size));have I:Hid (k<p.heap.size/\∀j,j<n->p.rangeAt k (4*j) (wn (ns j))):=⟨XC V.1 f.size,λj l=>RG.range_below (V.2 j l) f V.1⟩
     have HP:Hid (K<p.heap.size/\∀j,j<n->p.rangeAt K (8*j) (ws (b j).1++ws (b j).2)):=⟨r,λj l=>(J j l).2⟩
     have X:Hid (∀j,j<n->rd P (M j)=some ((b j).1,(b j).2)):=λj l=>(J j l).1
     have B:∀w,cZ 70 #[pv (ptP (iW ns (λj=>(b j).1) (λj=>(b j).2) n 257)).1 (ptP (iW ns (λj=>(b j).1) (λj=>(b j).2) n 257)).2] w (rZ w λe w'=>nC w (uE (ptP (iW ns (λj=>(b j).1) (λj=>(b j).2) n 257)).1 (ptP (iW ns (λj=>(b j).1) (λj=>(b j).2) n 257)).2) e w'):=wN C;have hS:cZ 66 #[sZ k n n,sZ K n n] p (rZ p λe w'=>e=pv (ptP (iW ns (λj=>(b j).1) (λj=>(b j).2) n 257)).1 (ptP (iW ns (λj=>(b j).1) (λj=>(b j).2) n 257)).2):=by
      apply(Jo C n y ns (λj=>(b j).1) (λj=>(b j).2) (λi m=>xO hN (HN i m)) k K p I.1 HP.1 I.2 HP.2).mono;rintro e w' ⟨v,rfl,t,s,rfl,rfl⟩;exact⟨_,rfl,t,rfl⟩
     generalize hz:ptP (iW ns (λj=>(b j).1) (λj=>(b j).2) n 257)=z at hS B;have HZ:Hid (ptP (iW ns (λj=>(b j).1) (λj=>(b j).2) n 257)=z):=hz;go_wp2_with fail
     refine hS.mono ?_;rintro e w3 ⟨v,rfl,U,rfl⟩;have t:=mk1 (d.trans (U.mono d.size));go_wp2_with fail
     apply(B _).mono;rintro e w4 ⟨v,rfl,Y,g,m,rfl,T,S,E,W⟩;have Z:=mk1 (t.trans (Y.mono t.size));have D:Hid (I1 w (uE z.1 z.2) (.tuple #[sZ g 33 m,iZ 0]) w4):=⟨g,m,rfl,T,XH t.size S,E,W⟩
     go_wp2
     go_ret2
     refine⟨_,rfl,Z,X7 (X7 ⟨rfl,y,X7 ⟨ns,HN,X7 ⟨_,_,X,?_⟩⟩⟩)⟩;rw[HZ.out];exact D
    .have d:=mk1 (x.trans (f.mono x.size));have D:=mk1 (u);go_wp2
     go_ret2
     exact⟨_,rfl,d,X7 (X7 ⟨rfl,y,X7 ⟨ns,HN,Ye ⟨D,rfl⟩⟩⟩)⟩
   .have x:=mk1 (A);have D:=mk1 (u);go_wp2
    go_ret2
    exact⟨_,rfl,x,X7 (X7 ⟨rfl,y,Ye ⟨D,rfl⟩⟩)⟩
 .go_enter func64,ntmps64;go_wp2
  go_ret2
  exact⟨_,rfl,XR _ _,Ye ⟨H,rfl⟩⟩
def I5:Bs:=XT 33 0
def QO(r d:Nat):d*d%(r+d)=r*r%(r+d):=by
 have h:d*d+(r+d)*r=r*r+(r+d)*d:=by
  rw[yAs,yAs,YK d r];omega
 have k:=congrArg (· % (r+d)) h;simp only[Nat.add_mul_mod_self_left]at k;exact k
def Px{m y:Fin P}(h:rt m=some y):y*y=m:=by
 have k:=JK h;unfold rt at h;rw[yEX k]at h;obtain rfl:=XX.inj h;have b:=yAF P;have c:m.val^(P/4+1)%P<P:=Y8 _ b;generalize m.val^(P/4+1)%P=r at k c;apply yA0;rw[yAG];show(even P r%P)*(even P r%P)%P=m.val;rw[X6 (GK b c),<-k];unfold even;split
 .have d:=QO r (P-r);rw[show r+(P-r)=P by omega]at d;exact d
 .rfl
def Dy{k:Bs}(c:k.size=33):uI k↔k=I5:=by
 constructor
 .intro h;apply yEK
  .rw[c];rfl
  .intro i e g;have:=h i (Y4.2 oM);rw[getElem!_pos k i e]at this;have d:k[i].toNat=0:=by
    have b:ub k[i]=(k[i].toNat:Int):=rfl;rw[b]at this;omega
   have b:(I5)[i]=0:=by
    have f:(XT 33 (0:UInt8))[i]'g=0:=Zi _;exact f
   rw[b];exact UInt8.toNat_inj.1 d
 .rintro rfl i b;have b:=Y4.1 b;unfold I5;rw[getElem!_pos _ i (by rw[X0];exact b),Zi];rfl
def Kc{x y:Fin P}(h:y*y=x*x*x+7):On (.some (x,y):EC.Pt P):=by
 show y^2=x^3+7
 grobner
def RL{x y:Fin P}(h:y*y=x*x*x+7):On (.some (x,0-y):EC.Pt P):=by
 show(0-y)^2=x^3+7
 grobner
def wr:EC.Pt P->Bs
 | none=>I5
 | some (x,y)=>#[mark y.val]++bx x.val
def wO(C:Fld P){x y:Fin P}{p:EC.Pt P}(h:Pair x y p)(ho:On p):uE x y=wr p:=by
 unfold uE;match p,h,ho with
 | none,h,_=>rw[yEX (show x=0/\y=0 from h)];rfl
 | some (a,b),h,ho =>
  obtain⟨rfl,rfl⟩:=h;rw[yEY (λe=>C.cur.y_ne ho e.2)];rfl
def pt(p:Fin P × Fin P):EC.Pt P:=if p.1=0/\p.2=0 then none else some p
def N9(C:Fld P){x y:Fin P}{q:EC.Pt P}(h:Pair x y q)(ho:On q):q=pt (x,y):=by
 unfold pt;match q,h,ho with
 | none,h,_=>rw[yEX (show x=0/\y=0 from h)]
 | some (a,b),h,ho =>
  obtain⟨rfl,rfl⟩:=h;rw[yEY (λe=>C.cur.y_ne ho e.2)]
def Ub(C:Fld P){b:Bs}{p:Fin P × Fin P}(h:rd P b=some p):Pair p.1 p.2 (pt p)/\On (pt p):=by
 have key:∃q:EC.Pt P,Pair p.1 p.2 q/\On q:=by
  unfold rd at h;split at h
  .split at h
   .obtain rfl:=XX.inj h;exact⟨none,⟨rfl,rfl⟩,jB⟩
   .split at h
    .split at h
     .obtain⟨y,c,rfl⟩:=XE.1 h;have k:=Px c;refine⟨some (rdx P b,if ub b[0]! = 3 then 0-y else y),⟨rfl,rfl⟩,?_⟩;split
      .exact RL k
      .exact Kc k
     .cases h
    .cases h
  .cases h
 obtain⟨q,k,c⟩:=key;have:=N9 C k c;rw[show pt p=q from this.symm];exact⟨k,c⟩
omit [NeZero P] in
theorem aL(p:EC.Pt P):(wr p).size=33:=by
 match p with
 | none=>rfl
 | some (x,y) =>
  show(#[mark y.val]++bx x.val).size=33;rw[Yl,cQ];rfl
def JP{a P:Nat}(h:IsP P)(k:P%4=3):(a*a%P)^(P/4+1)%P*((a*a%P)^(P/4+1)%P)%P=a*a%P:=by
 rw[<-yAW,<-Nat.pow_add,<-Nat.pow_mod,<-yEy,<-Nat.pow_mul,show 2*(P/4+1+(P/4+1))=P+1 by omega,Nat.pow_succ,yAW,h.fermat a,<-yAW,yEy]
def NI{a R P:Nat}(h:IsP P)(f:a<P)(hR:R<P)(e:R*R%P=a*a%P):R=a\/R+a=P:=by
 have key:∀x y:Nat,x<P->y<P->y<=x->x*x%P=y*y%P->x=y\/x+y=P:=by
  intro x y hx j g d;have hd:P ∣ x*x-y*y:=by
   refine Nat.dvd_of_mod_eq_zero ?_;exact Nat.sub_mod_eq_zero_of_mod_eq d
  have hf:x*x-y*y=(x-y)*(x+y):=by
   rw[YK (x-y),Nat.mul_self_sub_mul_self_eq]
  rw[hf]at hd;rcases h.euclid hd with b|b
  .left;have:=Nat.eq_zero_of_dvd_of_lt b oM;omega
  .obtain⟨k,i⟩:=b;have:k=0\/k=1\/2<=k:=oM;rcases this with rfl|rfl|c
   .left;omega
   .right;omega
   .have:=yAY P c;omega
 rcases Nat.le_total a R with b|b
 .exact key R a hR f b e
 .rcases key a R f hR b e.symm with c|c
  .left;exact c.symm
  .right;omega
section
def Ba{x:Nat}(hx:x<2^64):
 w8 (XS (x/72057594037927936)) (XS (x/281474976710656)) (XS (x/1099511627776)) (XS (x/4294967296)) (XS (x/16777216)) (XS (x/65536)) (XS (x/256)) (XS x)=x:=by
 unfold w8;simp only[yBj];omega
def IX{a b c d:Nat}:(be32 a b c d).toList=[XS (d/72057594037927936),XS (d/281474976710656),XS (d/1099511627776),XS (d/4294967296),XS (d/16777216),XS (d/65536),XS (d/256),XS d,XS (c/72057594037927936),XS (c/281474976710656),XS (c/1099511627776),XS (c/4294967296),XS (c/16777216),XS (c/65536),XS (c/256),XS c,XS (b/72057594037927936),XS (b/281474976710656),XS (b/1099511627776),XS (b/4294967296),XS (b/16777216),XS (b/65536),XS (b/256),XS b,XS (a/72057594037927936),XS (a/281474976710656),XS (a/1099511627776),XS (a/4294967296),XS (a/16777216),XS (a/65536),XS (a/256),XS a]:=by
 simp only[be32,be8,Array.toList_append,List.cons_append,List.nil_append]
def val_congr{a b c d p q r s:Nat}(f:a=p)(g:b=q)(e:c=r)(k:d=s):val a b c d=val p q r s:=by subst f g e k;rfl
def Mj{a b c d:Nat}(e:a<2^64)(f:b<2^64)(k:c<2^64)(hd:d<2^64):beV (be32 a b c d).toList=val a b c d:=
 (congrArg beV IX).trans ((Mk _ _ _ _ _ _ _ _ _ _ _ _ _ _ _ _ _ _ _ _ _ _ _ _ _ _ _ _ _ _ _ _).trans (val_congr (Ba e) (Ba f) (Ba k) (Ba hd)))
def EZ{n:Nat}(k:n<top):beV (bx n).toList=n:=by
 unfold bx;rw[Mj oM oM oM oM];unfold val;unfold top at k;omega
variable {P:Nat}[NeZero P]
def TX(C:Fld P){y m:Fin P}(h:y*y=m):rt m=some (if y.val%2=1 then 0-y else y):=by
 have d:y.val*y.val%P=m.val:=by rw[<-h,yAG]
 have k:=JP (a:=y.val) C.cur.pr C.p3;rw[d]at k;unfold rt;rw[yEX k];have g:=yAF P;have c:m.val^(P/4+1)%P<P:=Y8 _ g;generalize m.val^(P/4+1)%P=r at k c;have b:=y.isLt;have i:=C.p3;have hor:=NI C.cur.pr b c (k.trans d.symm)
 congr 1
 apply yA0;show even P r%P=_;unfold even;have f:(0-y:Fin P).val=(P-y.val)%P:=by rw[<-Bi,val_zero,XI]
 by_cases ho:y.val%2=1
 .rw[yEX ho,f];rcases hor with e|e
  .rw[e,yEX ho]
  .rw[yEY oM,show P-y.val=r by omega]
 .rw[yEY ho];rcases hor with e|e
  .rw[e,yEY ho,X6 b]
  .by_cases j:y.val=0
   .omega
   .rw[yEX oM,show P-r=y.val by omega,X6 b]
def Na(n:Nat):ub (mark n)=if n%2=1 then 3 else 2:=by
 unfold mark;split<;>rfl
def Ng{m:UInt8}{b:Bs}(h:b.size=32):vP (#[m]++b)=b:=by
 unfold vP;rw[Array.extract_append];have k:(#[m]:Bs).extract 1 33=#[]:=by rfl
 rw[k];simp[h]
def RY{m:UInt8}{b:Bs}:(#[m]++b)[0]! = m:=by
 rw[getElem!_pos _ 0 (by rw[Yl];simp;omega),yBq (by simp)];rfl
def Uc(C:Fld P){b:Bs}(d:b.size=33){x y:Fin P}(c:ub b[0]! = if y.val%2=1 then 3 else 2)(hv:beV (vP b).toList=x.val)(h:On (some (x,y):EC.Pt P)):rd P b=some (x,y):=by
 have k:¬uI b:=λk=>by
  have:=k 0 (Y4.2 dC);rw[c]at this;split at this<;>omega
 have hx:rdx P b=x:=by
  unfold rdx;rw[hv];exact yA0 (X6 x.isLt)
 have f:y*y=x*x*x+7:=by
  have:y^2=x^3+7:=h
  grobner
 unfold rd;rw[yEX d,yEY k,c,hv,yEX x.isLt,hx,TX C f];by_cases ho:y.val%2=1
 .rw[yEX ho,yEX (X7 rfl),yEX ho,yAq,yEX rfl];have e:0-(0-y)=y:=by grobner
  rw[e]
 .rw[yEY ho,yEX (Ye rfl),yEY ho,yAq,yEY dC]
def xR(C:Fld P){X:EC.Pt P}(h:On X):∃p,rd P (wr X)=some p/\pt p=X:=by
 match X,h with
 | none,_ =>
  refine⟨(0,0),?_,by unfold pt;rw[yEX ⟨rfl,rfl⟩]⟩;have k:(wr (none:EC.Pt P)).size=33:=aL _;have b:=(Dy k).2 rfl;unfold rd;rw[yEX k,yEX b]
 | some (x,y),h =>
  have b:=aL (P:=P) (some (x,y));have k:(wr (some (x,y):EC.Pt P))[0]! = mark y.val:=RY;have c:vP (wr (some (x,y):EC.Pt P))=bx x.val:=Ng (cQ _);refine⟨(x,y),Uc C b (by rw[k,Na]) (by rw[c,EZ (C.top x)]) h,by unfold pt;rw[yEY (λe=>C.cur.y_ne h e.2)]⟩
end
end Go.Proofs.YtlofhpkoaljmeaaGreat
