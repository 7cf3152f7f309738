import Derived.Laws.AppendOwn
import Derived.Deep.AppendSrc
import Derived.Lib.AppendZeros
import Derived.Deep.MidRow
import Derived.BigQuiet
import Derived.Lib.ConvBytes
import Derived.BigRegion
import Derived.Deep.RegionLaw
import Derived.Laws.OwnMore
import Derived.ArgAppend
import Derived.Laws.IdiomCopy
import Derived.Lib.SlBuf
import Derived.Test.YtlofhpkoaljmeaaGreatat5
set_option linter.unusedVariables false
set_option linter.constructorNameAsVariable false
set_option linter.unusedSimpArgs false
set_option maxRecDepth 1000000
set_option maxHeartbeats 4000000
namespace Go.Proofs.YtlofhpkoaljmeaaGreat
open EC NT RG SP
open _root_.And renaming intro->YP
open _root_.Array renaming getD->yEr,getD_eq_getD_getElem?->XI,getElem?_eq_getElem->X4,getElem?_eq_none->ZL,getElem?_setIfInBounds->Zv,length_toList->XP,replicate->XL,setIfInBounds->yAD
open _root_.Bool renaming and_eq_true->XO,noConfusion->yA7,or_eq_true->Z1
open _root_.Go renaming Addr->YW,Calls->XH,Exit->yAL,FuncId->ZY,Oper->Yo,Operand->yAf,Program->YG,Tmp->Zs,TypeId->Yd,Value->Xu,World->Xs,bodyPost_ret->XE,execOp->Yb,getD_set_ne->yAt,run_append_own->yBO,run_append_room_src->yCj,run_storeVar_mid->yCb,run_underlying->yAw,undef->Zp,wpList_load_mid->Yv,wpList_plain->ZH,wpList_store_mid->X8,wpOp_mono->yCa
open _root_.Go.Act renaming eval->yDh,put->XK
open _root_.Go.Builtin renaming append_->YA,copy_->yAy,firstCells->yBQ,nextslicecap->yA1
open _root_.Go.Code renaming region->Zd
open _root_.Go.Instr renaming box->Yl,buildSlice->Yr,indexAt->Yi,makeFunc->yAW,storeAt->yA6,sureAddr->yAC
open _root_.Go.IntKind renaming i64->Yh,u64->Yn,wrap_i64->Zc,wrap_u64->ZK
open _root_.Go.Next renaming value->ZN
open _root_.Go.Oper renaming wp->YV
open _root_.Go.Operand renaming tmp->yDK
open _root_.Go.Region renaming binds->YT,free->yBn,noSelect->yAo,ready->Yf,wanted->YS
open _root_.Go.Result renaming andThen_ok->Yu
open _root_.Go.RowKit.Below renaming refl->XM
open _root_.Go.Sem renaming run_bind->XT,run_pure->Zj
open _root_.Go.Src renaming ofSlice->yDf
open _root_.Go.Value renaming agg->X6,func->yCG,ownBlock->Za
open _root_.Go.World renaming cell?->YO,cell?_drew->yBB,cell?_of_block->XW,frozen?->Zi,frozen?_of_block->Y0,rangeAt->yBu,rangeAt_setCells_apart->Yk,rangeAt_setCells_same->YM,size_alloc->XF,size_drew->yDJ,there_setCells->Y2
open _root_.List renaming all_toArray->yAJ,append_assoc->YI,append_nil->yAh,drop->ZR,eq_nil_of_length_eq_zero->yCs,getElem?_append_left->XQ,getElem?_append_right->XR,getElem?_cons_succ->Ya,getElem?_cons_zero->Yc,getElem?_eq_getElem->XJ,getElem?_eq_none->ZG,getElem?_eq_some_iff->XG,getElem?_map->Ys,getElem?_toArray->Ye,length_append->XC,length_set->yDQ,map_append->YU,mem_append->Y3,mem_cons->YX,mem_map->Yw,mem_singleton->YY,nodup_append->yBz,nodup_cons->yAu,nodup_nil->yD2,not_mem_nil->X5,range->Yt,setIfInBounds_toArray->Xt,set_cons_succ->Xv,set_cons_zero->Xw,size_toArray->YD,take->ZQ
open _root_.Nat renaming add_assoc->Zu,add_mul->yAn,add_zero->yAi,le_of_eq->yBp,le_of_lt->yAl,le_refl->Xx,le_trans->XB,lt_of_lt_of_le->Xz,lt_of_sub_eq_succ->yA2,min->yAs,min_le_left->yCK,min_le_right->yCC,mod_eq_of_lt->XX,mod_lt->Y9,mul_comm->YF,mul_le_mul->ZB,mul_le_mul_right->yAj,not_lt_zero->ZV,pow_pos->yAM,pow_succ->Zf,reduceAdd->YH,sub_zero->yBx,succ_lt_succ->yDN,zero_add->XD,zero_le->Zh,zero_lt_succ->yBC,zero_mod->yBw
open _root_.Ne renaming symm->yBb
open _root_.Option renaming isSome_iff_exists->YB,map_eq_some_iff->XA,some->XS
open _root_.Or renaming inl->X9,inr->X0
open _root_.Prod renaming mk->Ze
open Go.Proofs.Tryz
open Go.RowKit Go.Sort Go.Deep
section
variable {P:Nat}[NeZero P]{N:Nat}
def lgV(r:Nat):Xu:=.agg #[jZ r]
theorem uLg:(prog.underlying 159).map (·.isRow)=some true:=kR
theorem iLg:(prog.info? 159).map (·.size)=some 1:=kR
theorem uLp:(prog.underlying 155).map (·.isRow)=some false:=kR
theorem O1(r:Nat)(w:Xs):(Yl 159 (lgV r)).run prog w=.ok (jZ w.heap.size) (w.alloc (.cells #[jZ r] 159)):=kR
theorem eU{W:Xs}{r K o:Nat}{vs:List Xu}{L:Bs}(h:Holds encB W r 0 L)(k:r≠K):Holds encB (W.setCells K o vs) r 0 L:=λj b=>by
 have e:=aE K vs o W r k;rw[XW (a:=⟨r,0+j,none⟩) e,Y0 (a:=⟨r,0+j,none⟩) e];exact h j b
theorem Iq(k:ByteArray)(w:Xs)(g:k.size<=1048576):XH prog 133 #[.string k] w (rZ w λe w'=>∃r,e=lgV r/\w.heap.size<=r/\r<w'.heap.size/\Holds encB w' r 0 (newL k.data.toList)):=by
 obtain⟨L,q⟩:=hE (newL k.data.toList);rw[q.out];obtain⟨p,c⟩:=hE (w.alloc (.cells #[.pointer none] 159));have l:Hid (Row p w.heap.size [.pointer none]/\kZ w p):=by rw[<-c.out];exact⟨row_new w _ _,aC w _⟩
 go_enter func133,ntmps133;go_wp2_with fail
 rw[c.out];refine(H8 k p g).mono ?_;rintro e s ⟨u,rfl,d,r,rfl,o,n,i⟩;rw[q.out]at i;have t:=Xz l.1.1 o;have f:=mk4 (l.1.below d) (l.2.trans (d.mono l.2.size)) i n;obtain⟨m,b⟩:=hE (s.setCells w.heap.size 0 [jZ r]);have j:Hid (Row m w.heap.size [jZ r]/\kZ w m/\Holds encB m r 0 L/\r<m.heap.size):=by
  rw[<-b.out];exact⟨f.1.put rfl,RG.below_setCells (Xx _) _ _ _ f.2.1,eU f.2.2.1 oM,by rw[setCells_size];exact f.2.2.2⟩
 go_wp2_with (refine bF (v:=.agg #[jZ r]) (w':=s) rfl (.build 159 _) rfl ?_ ?_;kernel_rfl;refine Hid.out ?_)
 show wpList _ _ _ _ _ _;refine X8 rfl 159 _ _ rfl w.heap.size 0 #[jZ r] ?_ ?_ ?_ ?_ ?_ ?_
 ·kernel_rfl
 ·kernel_rfl
 ·exact f.1.2.2
 ·exact iLg
 ·kernel_rfl
 rw[show(#[jZ r]).toList=[jZ r] from rfl,b.out];go_wp2;refine XE (aF 2 159 rfl j.1 rfl uLg iLg) rfl ?_;exact⟨_,rfl,j.2.1,r,rfl,oM,j.2.2.2,j.2.2.1⟩
theorem Aa(O:Ord N)(r:Nat)(L:Bs)(w:Xs)(s:Holds encB w r 0 L)(E:L.size=32):
 XH prog 187 #[.agg #[jZ r]] w (Ret λe w'=>SP.Only r 0 32 w w'/\Holds encB w' r 0 (aX L)/\e=nv (cha N L)):=by
 have u:=Holds.lt s oM;obtain⟨c,k⟩:∃c,Hid ((w.alloc (.cells #[jZ r] 157)).alloc (.cells #[uZ 0,uZ 0,uZ 0,uZ 0] 44)=c):=⟨_,rfl⟩
 have o:Hid (Row c (w.heap.size+1) [uZ 0,uZ 0,uZ 0,uZ 0]/\kZ w c/\Holds encB c r 0 L/\c.rangeAt w.heap.size 0 [jZ r]):=by
  rw[<-k.out];have b:kZ w ((w.alloc (.cells #[jZ r] 157)).alloc (.cells #[uZ 0,uZ 0,uZ 0,uZ 0] 44)):=(aC w _).alloc (by rw[XF];omega) _;have hR:=row_new (w.alloc (.cells #[jZ r] 157)) [uZ 0,uZ 0,uZ 0,uZ 0] 44;rw[XF]at hR;exact⟨hR,b,Holds.below s b u,((row_new w [jZ r] 157).alloc _).2.1⟩
 clear s;obtain⟨d,j,l⟩:=XA.1 u124;have A:Hid (prog.underlying 157=some d/\d.isRow=true):=⟨j,l⟩
 clear j l;have B:=D2 O r L ⟨#[99,104,97,108,108,101,110,103,101]⟩ c dC o.2.2.1 E;have n:mN N (Dn L (⟨#[99,104,97,108,108,101,110,103,101]⟩:ByteArray).data.toList 64)=cha N L:=rfl;have i:uK L (⟨#[99,104,97,108,108,101,110,103,101]⟩:ByteArray).data.toList=aX L:=rfl;rw[n,i]at B;have x:(aX L).size=32:=bD _ _;have C:=Hid.mk' B;obtain⟨m,a⟩:=hE (cha N L);obtain⟨D,b⟩:=hE (aX L);rw[a.out,b.out]at C;rw[b.out]at x;rw[a.out,b.out];go_enter func187,ntmps187;go_wp2_with (refine Yv rfl 157 _ rfl w.heap.size 0 ?_ [jZ r] d ?_ ?_ ?_ ?_ ?_;kernel_rfl;(rw[k.out];exact o.2.2.2);exact A.1;exact A.2;exact i124;rw[k.out])
 refine C.mono ?_;rintro e F ⟨v,rfl,z,y,rfl⟩;have G:=Holds.lt y oM;have p:=mk3 (o.1.only z oM) ((SP.Only.of_below o.2.1 rfl u).trans z) y;obtain⟨t,g⟩:=hE (F.setCells (w.heap.size+1) 0 (wn m));have q:Hid (Row t (w.heap.size+1) (wn m)/\SP.Only r 0 32 w t/\Holds encB t r 0 D):=by rw[<-g.out];exact⟨p.1.put rfl,dX p.2.1 u oM _,eU p.2.2 oM⟩
 obtain⟨H,f⟩:=hE (nv m);rw[f.out];go_wp2_with (refine X8 rfl 44 _ _ rfl (w.heap.size+1) 0 (wn m).toArray ?_ ?_ ?_ ?_ ?_ ?_;rfl;exact f.symm;exact p.1.2.2;exact i40;exact aI m;rw[show(wn m).toArray.toList=wn m from rfl,g.out])
 refine XE (aF 2 44 rfl q.1 rfl u40 i40) rfl ?_;exact⟨_,rfl,q.2.1,q.2.2,rfl⟩
def chS(N:Nat)(L:Bs):Nat:=lN (cha N L)
theorem GW[NeZero N](d:1<N)(L:Bs)(b:cha N L<N):chS N L=(kX N L).val:=by
 unfold chS kX Og lN;generalize cha N L=c at b;have hv:(ofF N c).val=c:=XX b;by_cases k:c=0
 ·subst k;rw[yES rfl,yES nY];exact(XX d).symm
 ·rw[yET k,yET (λe=>k (by rw[<-hv,e];exact yBw N)),hv]
theorem zE(O:Ord N)(r:Nat)(L:Bs)(w:Xs)(y:Holds encB w r 0 L)(K:L.size=32):
 XH prog 136 #[lgV r] w (Ret λe w'=>SP.Only r 0 32 w w'/\Holds encB w' r 0 (aX L)/\e=nv (chS N L)):=by
 have a:=Holds.lt y oM;obtain⟨f,k⟩:∃f,Hid ((w.alloc (.cells #[jZ r] 159)).alloc (.cells #[uZ 0,uZ 0,uZ 0,uZ 0] 44)=f):=⟨_,rfl⟩
 have p:Hid (Row f (w.heap.size+1) [uZ 0,uZ 0,uZ 0,uZ 0]/\kZ w f/\Holds encB f r 0 L/\f.rangeAt w.heap.size 0 [jZ r]):=by
  rw[<-k.out];have b:kZ w ((w.alloc (.cells #[jZ r] 159)).alloc (.cells #[uZ 0,uZ 0,uZ 0,uZ 0] 44)):=(aC w _).alloc (by rw[XF];omega) _;have hR:=row_new (w.alloc (.cells #[jZ r] 159)) [uZ 0,uZ 0,uZ 0,uZ 0] 44;rw[XF]at hR;exact⟨hR,b,Holds.below y b a,((row_new w [jZ r] 159).alloc _).2.1⟩
 clear y;obtain⟨d,l,n⟩:=XA.1 u124;have F:Hid (prog.underlying 157=some d/\d.isRow=true):=⟨l,n⟩
 clear l n;have P:=Aa O r L f p.2.2.1 K;have t:cha N L<N:=oU O _;have i:=λW=>Gf O t W
 have B:lN (cha N L)=chS N L:=rfl;rw[B]at i;have A:(aX L).size=32:=bD _ _;obtain⟨m,E⟩:=hE (cha N L);obtain⟨q,G⟩:=hE (chS N L);obtain⟨J,c⟩:=hE (aX L);have I:=Hid.mk' P;have H:=Hid.mk' i;rw[E.out,c.out]at I;rw[E.out,G.out]at H;rw[c.out]at A;rw[G.out,c.out];unfold lgV;go_enter func136,ntmps136;go_wp2_with (refine Yv rfl 157 _ rfl w.heap.size 0 ?_ [jZ r] d ?_ ?_ ?_ ?_ ?_;kernel_rfl;(rw[k.out];exact p.2.2.2);exact F.1;exact F.2;exact i124;rw[k.out])
 refine I.mono ?_;rintro e Q ⟨v,rfl,D,C,rfl⟩;have o:=Holds.lt C oM;have x:=mk3 (p.1.only D oM) ((SP.Only.of_below p.2.1 rfl a).trans D) C;go_wp2_with fail
 refine(H Q).mono ?_;rintro e M ⟨R,rfl,b,rfl⟩;have s:=mk3 (x.1.below b) (x.2.1.trans (SP.Only.of_below b rfl o)) (Holds.below x.2.2 b o);obtain⟨z,j⟩:=hE (M.setCells (w.heap.size+1) 0 (wn q));have u:Hid (Row z (w.heap.size+1) (wn q)/\SP.Only r 0 32 w z/\Holds encB z r 0 J):=by rw[<-j.out];exact⟨s.1.put rfl,dX s.2.1 a oM _,eU s.2.2 oM⟩
 obtain⟨S,g⟩:=hE (nv q);rw[g.out];go_wp2_with (refine X8 rfl 44 _ _ rfl (w.heap.size+1) 0 (wn q).toArray ?_ ?_ ?_ ?_ ?_ ?_;rfl;exact g.symm;exact s.1.2.2;exact i40;exact aI q;rw[show(wn q).toArray.toList=wn q from rfl,j.out])
 refine XE (aF 2 44 rfl u.1 rfl u40 i40) rfl ?_;exact⟨_,rfl,u.2.1,u.2.2,rfl⟩
structure CaI(w W:Xs)(k r:Nat)(X Y L:Bs):Prop where
 on:SP.Only r 0 32 w W
 r0:Row W k [jZ r]
 r1:Row W (k+1) (aA X)
 r2:Row W (k+2) (aA Y)
 r3:Row W (k+3) [uZ 0,uZ 0,uZ 0,uZ 0]
 lg:Holds encB W r 0 L
theorem CaI.grow{w W W':Xs}{k r:Nat}{X Y L:Bs}(h:CaI w W k r X Y L)(d:L.size=32)(b:kZ W W'):CaI w W' k r X Y L:=
 have c:=Holds.lt h.lg oM
 ⟨h.on.trans (SP.Only.of_below b rfl c),h.r0.below b,h.r1.below b,h.r2.below b,h.r3.below b,Holds.below h.lg b c⟩
theorem CaI.say{w W W':Xs}{k r:Nat}{X Y L c:Bs}(h:CaI w W k r X Y L)(e:r<k)(b:SP.Only r 0 32 W W')(d:Holds encB W' r 0 c):CaI w W' k r X Y c:=
 ⟨h.on.trans b,h.r0.only b oM,h.r1.only b oM,h.r2.only b oM,h.r3.only b oM,d⟩
theorem uE(O:Ord N)(r:Nat)(L X Y:Bs)(p g:ByteArray)(h1:p.size<=1048576)(h2:g.size<=1048576)(hX:X.size=33)(hY:Y.size=33)(w:Xs)(hL:Holds encB w r 0 L)(hl:L.size=32):
 XH prog 135 #[lgV r,.string p,pvl X,.string g,pvl Y] w (Ret λe w'=>SP.Only r 0 32 w w'/\Holds encB w' r 0 (aX (kE p.data.toList g.data.toList L X Y))/\e=nv (chS N (kE p.data.toList g.data.toList L X Y))):=by
 have hr:=Holds.lt hL oM;obtain⟨B,D⟩:∃B,Hid (vT L p.data.toList X.toList=B):=⟨_,rfl⟩
 have s1:B.size=32:=by rw[<-D.out];exact lE _ _ _
 obtain⟨y,H⟩:∃y,Hid (vT B g.data.toList Y.toList=y):=⟨_,rfl⟩
 have s2:y.size=32:=by rw[<-H.out];exact lE _ _ _
 have e2:kE p.data.toList g.data.toList L X Y=y:=by unfold kE;rw[D.out,H.out]
 rw[e2];obtain⟨k,I⟩:∃k,Hid (w.heap.size=k):=⟨_,rfl⟩
 obtain⟨b,o⟩:∃b,Hid (w.alloc (.cells #[jZ r] 159)=b):=⟨_,rfl⟩
 obtain⟨c,s⟩:∃c,Hid (b.alloc (.cells (aA X).toArray 51)=c):=⟨_,rfl⟩
 obtain⟨f,i⟩:∃f,Hid (c.alloc (.cells (aA Y).toArray 51)=f):=⟨_,rfl⟩
 obtain⟨C,G⟩:∃C,Hid (f.alloc (.cells #[uZ 0,uZ 0,uZ 0,uZ 0] 44)=C):=⟨_,rfl⟩
 have z1:b.heap.size=k+1:=by rw[<-o.out,XF,I.out]
 have Z:c.heap.size=k+2:=by rw[<-s.out,XF,z1]
 have z3:f.heap.size=k+3:=by rw[<-i.out,XF,Z]
 have E:r<k:=by rw[<-I.out];exact hr
 have HK:Hid (w.heap.size<=k):=by show _<=_;rw[I.out];exact Xx _
 have K4:Hid (CaI w C k r X Y L):=by
  have b1:kZ w b:=by rw[<-o.out];exact aC _ _
  have j:kZ b c:=by rw[<-s.out];exact aC _ _
  have l:kZ c f:=by rw[<-i.out];exact aC _ _
  have n:kZ f C:=by rw[<-G.out];exact aC _ _
  have A:Row b k [jZ r]:=by rw[<-o.out,<-I.out];exact row_new w _ _
  have a:Row c (k+1) (aA X):=by rw[<-s.out,<-z1];exact row_new b _ _
  have z:Row f (k+2) (aA Y):=by rw[<-i.out,<-Z];exact row_new c _ _
  have F:Row C (k+3) [uZ 0,uZ 0,uZ 0,uZ 0]:=by rw[<-G.out,<-z3];exact row_new f _ _
  have t:kZ w C:=((b1.trans (j.mono b1.size)).trans (l.mono (XB b1.size j.size))).trans (n.mono (XB b1.size (XB j.size l.size)));exact⟨SP.Only.of_below t rfl hr,((A.below j).below l).below n,(a.below l).below n,z.below n,F,Holds.below hL t hr⟩
 obtain⟨vl,S⟩:∃v,Hid (lgV r=v):=⟨_,rfl⟩
 obtain⟨vX,K⟩:∃v,Hid (pvl X=v):=⟨_,rfl⟩
 obtain⟨vY,Q⟩:∃v,Hid (pvl Y=v):=⟨_,rfl⟩
 have B1:Hid ((Yl 159 vl).run prog w=.ok (jZ k) b):=by rw[<-S.out,<-o.out,<-I.out];exact O1 r w
 have B2:Hid ((Yl 51 vX).run prog b=.ok (.pointer (some ⟨k+1,0,none⟩)) c):=by rw[<-K.out,<-s.out,<-z1];exact sM hX b
 have B3:Hid ((Yl 51 vY).run prog c=.ok (.pointer (some ⟨k+2,0,none⟩)) f):=by rw[<-Q.out,<-i.out,<-Z];exact sM hY c
 have HZ:Hid (f.heap.size=k+3):=z3;rw[S.out,K.out,Q.out];have T:Hid (Ord N/\p.size<=1048576/\g.size<=1048576/\X.size=33/\Y.size=33):=⟨O,h1,h2,hX,hY⟩
 clear hL z1 Z z3 o s i I e2 O h1 h2 hX hY;go_enter func135,ntmps135;go_wp2_with (first|(refine aG (u:=vl) (v:=jZ k) (w':=b) rfl 159 (.tmp 0) rfl ?_ ?_ ?_;rfl;exact B1.out)|(refine aG (u:=vX) (v:=.pointer (some ⟨k+1,0,none⟩)) (w':=c) rfl 51 (.tmp 2) rfl ?_ ?_ ?_;rfl;exact B2.out)|(refine aG (u:=vY) (v:=.pointer (some ⟨k+2,0,none⟩)) (w':=f) rfl 51 (.tmp 4) rfl ?_ ?_ ?_;rfl;exact B3.out)|(refine fU (v:=.pointer (some ⟨k+3,0,none⟩)) (w':=C) rfl 44 10 rfl rfl ?_ ?_;(rw[<-G.out,<-HZ.out];kernel_rfl))|fail)
 refine(gwL [pE (jZ k),pE (jZ k),pE (jZ r),pE (.string p),pE (.slice (some ⟨k+1,0,none⟩) 33 33)] (λW=>CaI w W k r X Y L) (λW W' hb h=>h.grow hl hb)).tail2 5 kR kR kR ⟨
  gO 5 (jZ k),
  rX 0 11 (jZ k) (jZ k) (λx W h=>h) (λ_=>rfl),
  fF 155 1 12 k 0 (jZ r) uLp (λx W h=>h) (λW a=>a.r0.2.1 0 _ rfl) (λ_=>rfl),
  gO 1 (.string p),
  gP 7 (.pointer (some ⟨k+1,0,none⟩)) (.slice (some ⟨k+1,0,none⟩) 33 33),yEU⟩ (K4.grow hl ⟨rfl,rfl,rfl,Xx _,λ_ _=>rfl⟩) ?_
 intro V w5 hR a;have n:V 2=jZ r:=hR 2 dC;have l:V 3=.string p:=hR 3 dC;have j:V 4=.slice (some ⟨k+1,0,none⟩) 33 33:=hR 4 dC;dsimp only[bY,YH,ZQ,ZR];simp only[XK,Xt,Xv,Xw];rw[n,l,j];have z:=Hid.mk' a;clear hR a n l j K4;generalize V 0=s0;generalize V 1=h3;go_wp2_with fail
 refine(B8 r L p (some ⟨k+1,0,none⟩) 33 33 X.toList w5 T.2.1 (QN z.lg) hl (xQ T.2.2.2.1 z.r1)).mono ?_;rintro e w6 ⟨rfl,A,t⟩;rw[D.out]at t;have K6:Hid (CaI w w6 k r X Y B):=z.say E A (QM t);clear A t z;go_wp2_with fail
 refine(gwL [pE (jZ k),pE (jZ k),pE (jZ r),pE (.string g),pE (.slice (some ⟨k+2,0,none⟩) 33 33)] (λW=>CaI w W k r X Y B) (λW W' hb h=>h.grow s1 hb)).tail2 5 kR kR kR ⟨
  gO 5 (jZ k),
  rX 0 17 (jZ k) (jZ k) (λx W h=>h) (λ_=>rfl),
  fF 155 1 18 k 0 (jZ r) uLp (λx W h=>h) (λW a=>a.r0.2.1 0 _ rfl) (λ_=>rfl),
  gO 3 (.string g),
  gP 9 (.pointer (some ⟨k+2,0,none⟩)) (.slice (some ⟨k+2,0,none⟩) 33 33),yEU⟩ (K6.grow s1 ⟨rfl,rfl,rfl,Xx _,λ_ _=>rfl⟩) ?_
 intro V w7 hR a;have n:V 2=jZ r:=hR 2 dC;have l:V 3=.string g:=hR 3 dC;have j:V 4=.slice (some ⟨k+2,0,none⟩) 33 33:=hR 4 dC;dsimp only[bY,YH,ZQ,ZR];simp only[XK,Xt,Xv,Xw];rw[n,l,j];have z:=Hid.mk' a;clear hR a n l j K6;generalize V 0=h4;generalize V 1=s3;go_wp2_with fail
 refine(B8 r B g (some ⟨k+2,0,none⟩) 33 33 Y.toList w7 T.2.2.1 (QN z.lg) s1 (xQ T.2.2.2.2 z.r2)).mono ?_;rintro e w8 ⟨rfl,A,t⟩;rw[H.out]at t;have K8:Hid (CaI w w8 k r X Y y):=z.say E A (QM t);clear A t z;have HS:=Hid.mk' (zE T.1 r y w8 K8.lg s2);have h0:(aX y).size=32:=bD _ _;obtain⟨q,hq⟩:∃m,Hid (chS N y=m):=⟨_,rfl⟩
 obtain⟨L3,F⟩:∃m,Hid (aX y=m):=⟨_,rfl⟩
 rw[hq.out,F.out]at HS;rw[F.out]at h0;obtain⟨d,M,P⟩:=XA.1 uLg;have HD:Hid (prog.underlying 159=some d/\d.isRow=true):=⟨M,P⟩
 clear M P;go_wp2_with (first|(refine Yv rfl 159 (.tmp 5) rfl k 0 ?_ [jZ r] d ?_ ?_ ?_ ?_ ?_;rfl;exact K8.r0.2.1;exact HD.1;exact HD.2;exact iLg;skip)|fail)
 refine HS.mono ?_;rintro e w9 ⟨v,rfl,A,t,rfl⟩;have K9:Hid (CaI w w9 k r X Y L3):=K8.say E A t;clear A t K8 HS;obtain⟨R,U⟩:∃R,Hid (w9.setCells (k+3) 0 (wn q)=R):=⟨_,rfl⟩
 have KA:Hid (Row R (k+3) (wn q)/\SP.Only r 0 32 w R/\Holds encB R r 0 L3):=by
  have J:=HZ.out;rw[<-U.out];exact⟨K9.r3.put rfl,dX K9.on hr (by have:=HK.out;omega) _,eU K9.lg oM⟩
 obtain⟨vm,J⟩:∃vm,Hid (nv q=vm):=⟨_,rfl⟩
 rw[J.out];go_wp2_with (refine X8 rfl 44 _ _ rfl (k+3) 0 (wn q).toArray ?_ ?_ ?_ ?_ ?_ ?_;rfl;exact J.symm;exact K9.r3.2.2;exact nSc;exact aI q;rw[show(wn q).toArray.toList=wn q from rfl,U.out])
 refine XE (aF 10 44 rfl KA.1 rfl rSc nSc) rfl ?_;exact⟨_,rfl,KA.2.1,by rw[F.out];exact KA.2.2,by rw[hq.out];rfl⟩
theorem FB:prog.underlying 27=some (.slice 23):=kR
theorem Sg:(prog.info? 23).map (λi=>(i.size,i.bytes,i.zero.map λz=>z.cells.size))=some (1,24,some 1):=kR
theorem gU(g o j:Nat):(⟨g,o,none⟩:YW).add j=⟨g,o+j,none⟩:=by
 unfold Addr.add;by_cases k:j=0
 ·subst k;rw[yES rfl];rfl
 ·rw[yET k]
structure VL(w:Xs)(q:Option YW)(m:Nat)(ys:List Xu):Prop where
 len:ys.length=m
 nil:q=none->m=0
 cells:ys=[]\/∃b o,q=some ⟨b,o,none⟩/\b<w.heap.size/\∀(j:Nat) u,ys[j]? = some u->w.cell? ⟨b,o+j,none⟩=some u
 one:∀u∈ys,u.oneCell'=true
theorem VL.below{w w':Xs}{q:Option YW}{m:Nat}{ys:List Xu}(h:VL w q m ys)(c:kZ w w'):VL w' q m ys:=
 ⟨h.len,h.nil,by
  rcases h.cells with g|⟨b,o,e,k,f⟩
  ·exact X9 g
  ·exact X0 ⟨b,o,e,Xz k c.size,λj u d=>by rw[c.cell (p:=⟨b,o+j,none⟩) k];exact f j u d⟩,h.one⟩
end
section
theorem Hid.mkP{p:Prop}(h:p):Hid p:=h
section
variable {P:YG}{ops:Array Yo}{rest:List Yo}{op:Yo}{a:Act}{w w':Xs}{v:Xu}{Q:yAL->Act->Xs->Prop}
theorem dO(k:op.guard=none)(X:Op)(_:op.op=X)(c:(Yb a.eval op).run P w=.ok (.value v) w')(h:wpList P ops Q rest (a.put op.dst v) w'):wpList P ops Q (op :: rest) a w:=
 ZH k λK b=>by
  unfold YV;rw[c];exact b _ _ h
end
theorem bJ(w:Xs)(o:Obj):kZ w (w.alloc o):=(XM _ _).alloc (Xx _) _
theorem fQ(w:Xs)(cs:Array Xu)(T:Yd)(j:Nat)(v:Xu)(h:cs[j]? = some v):(w.alloc (.cells cs T)).cell? ⟨w.heap.size,j,none⟩=some v:=by
 unfold World.alloc YO;simp[h]
end
section
variable {P:Nat}[NeZero P]{N:Nat}
structure Sv where
 q:Option YW
 n:Nat
 c:Nat
def Sv.v(s:Sv):Xu:=.slice s.q s.n s.c
def rgC(a b c d e f g l r x y:Sv):List Xu:=[a.v,b.v,c.v,d.v,e.v,f.v,g.v,l.v,r.v,x.v,y.v]
theorem uRg:(prog.underlying 66).map (·.isRow)=some true:=kR
theorem iRg:(prog.info? 66).map (·.size)=some 11:=kR
theorem UK(g n c i:Nat)(k:i<n)(w:Xs):(Yi 27 (sZ g n c) (iZ i)).run prog w=.ok (oZ g i) w:=by
 go_simp
def Pt(W:Xs)(u:Xu)(b:SP.Bs):Prop:=∃q c,u=.slice q (Array.size b) c/\(b.size=0\/∃g o,q=some ⟨g,o,none⟩/\g<W.heap.size/\Holds SP.encB W g o b)
theorem Pt.below{W W':Xs}{u:Xu}{b:SP.Bs}(h:Pt W u b)(e:kZ W W'):Pt W' u b:=by
 obtain⟨q,c,d,f|⟨g,o,j,k,i⟩⟩:=h
 ·exact⟨q,c,d,X9 f⟩
 ·exact⟨q,c,d,X0 ⟨g,o,j,Xz k e.size,SP.Holds.below i e k⟩⟩
theorem oK(w:Xs)(cs:List Xu)(T:Yd):(w.alloc (.cells cs.toArray T)).rangeAt w.heap.size 0 cs:=λj u k=>by rw[XD];exact fQ w _ _ j u (by simpa using k)
theorem range_below{w w':Xs}{b o:Nat}{cs:List Xu}(h:w.rangeAt b o cs)(d:kZ w w')(k:b<w.heap.size):w'.rangeAt b o cs:=λj u c=>by rw[d.cell (p:=⟨b,o+j,none⟩) k];exact h j u c
structure Rg where
 a:Sv
 b:Sv
 c:Sv
 d:Sv
 e:Sv
 f:Sv
 g:Sv
 l:Sv
 r:Sv
 x:Sv
 y:Sv
def Rg.cs(p:Rg):List Xu:=rgC p.a p.b p.c p.d p.e p.f p.g p.l p.r p.x p.y
theorem uX(n c:Nat)(h:c<n):yA1 n c<=2*n+768:=by
 unfold yA1;split
 ·omega
 ·split
  ·omega
  ·simp only[Builtin.growBy];repeat' split
   all_goals omega
theorem yB{y n m size c:Nat}{T e:Yd}{i:TypeInfo}{z:Xu}{W W':Xs}{v t:Xu}{xs b:List Xu}{a:YW}(H:prog.underlying T=some (.slice e))(D:prog.info? e=some i)(K:i.zero=some z)(C:i.size=size)(F:i.bytes<=1000)
 (d:W.ownsRow y e size v n xs) (s:Src prog size T (.slice (some a) m c) m b W) (k:n+m<=1000000000)
 (r:(YA #[T,T] T #[v,.slice (some a) m c]).run prog W=.ok t W'):t.ownBlock=v.ownBlock\/t.ownBlock=some W.heap.size:=by
 subst C;have k:∀(q:Option YW) (cap:Nat) (olds:List Xu),v=.slice q n cap->cap<n+m->(yBQ i.size n (.slice q n cap)).run prog W.drew=.ok olds.toArray W.drew->t.ownBlock=v.ownBlock\/t.ownBlock=some W.heap.size:=λq cap olds hv I w=>by
  have G:=uX (n+m) cap I;have B:yA1 (n+m) cap*i.bytes<=(2*(n+m)+768)*1000:=ZB G F;have p:=run_append_grow_src (P:=prog) W T T T e i z H D K q n cap olds w (.slice (some a) m c) m b s I oM (XB B (by clear G B;omega));rw[hv,p]at r;injection r with hr1 o
  right;rw[<-hr1];rfl
 rcases id d with⟨-,⟨rfl,rfl⟩|⟨g,cap,cur,rfl,N,J,Q,O,M,R⟩⟩
 ·by_cases L:m=0
  ·subst L;have E:=r;obtain⟨f,o⟩:∃f,(YA #[T,T] T #[.slice none 0 0,.slice (some a) 0 c]).run prog W=.ok (.slice none 0 0) f:=by
    rcases s.kind with⟨e',A⟩|A<;>exact⟨_,by simp[YA,yAw H,yAw A,sizeOf,typeInfo,D,s.len,s.cells];rfl⟩
   rw[o]at r;injection r with hr1 o
   left;rw[<-hr1]
  ·exact k none 0 [] rfl oM (run_firstCells_none W.drew i.size 0 0 0)
 ·by_cases f:n+m<=cap
  ·have p:=yCj (P:=prog) W T T T e i H D g 0 n cap (.slice (some a) m c) m b s f
    (λj A=>by
     have E:n*i.size+j<cur.size:=by
      rw[M];have G:j<m*i.size:=by rw[<-s.newsLen];exact A
      have B:(n+m)*i.size<=cap*i.size:=yAj _ f;rw[yAn]at B;omega
     simp[YO,J,XD,X4 E])
    (λj A=>by simp[Zi,J])
   rw[p]at r;injection r with hr1 o
   left;rw[<-hr1];rfl
  ·refine k (some (aZ g)) cap xs rfl oM ?_;exact run_firstCells_some W.drew i.size n (aZ g) n cap xs d.1 (λj u A=>by rw[yBB];exact d.cells (g:=g) rfl j u A)
theorem H6{P:YG}{k:Array Yo}{o:Yo}{a:Act}{w:Xs}{K:Act->Xs->Prop}{Q:yAL->Act->Xs->Prop}{E:Prop}(e:o.guard=none)(s x:yAf)(t b:Yd)
 (ho:o.op=.call { callee:=.builtin .append,args:=#[s,x],argTypes:=#[t,b] }) (vs c:Xu) (g:a.eval s=vs) (hx:a.eval x=c)
 (d:Xu) (w':Xs) (f:(YA #[t,b] o.type #[vs,c]).run P w=.ok d w') (h:K (a.put o.dst d) w'):if YS o (yielded k a.tmps)=true then YV P o a w K Q else E:=by
 have i:YS o (yielded k a.tmps)=true:=by simp[YS,e]
 rw[yES i];exact Lib.wp_append_run w s x t b ho vs c g hx d w' f h
theorem Jg:prog.underlying 96=some (.slice 101):=kR
theorem R2:(prog.info? 101).map (λi=>(i.size,i.bytes,i.zero.map λz=>z.cells.size))=some (2,16,some 2):=kR
def pC(x:YW × Nat):List Xu:=[.pointer (some x.1),iZ (x.2:Int)]
def psC(k:List (YW × Nat)):List Xu:=k.flatMap pC
theorem oY:∀k:List (YW × Nat),(psC k).length=k.length*2
 | []=>rfl
 | x :: r=>by
  have:=oY r;unfold psC at *;rw[List.flatMap_cons,XC,this,List.length_cons];show 2+_=_;omega
theorem NW(a b:List (YW × Nat)):psC (a++b)=psC a++psC b:=List.flatMap_append
theorem FX:∀(k:List (YW × Nat)),∀u∈psC k,u.oneCell'=true:=by
 intro k u b;obtain⟨x,-,hx⟩:=List.mem_flatMap.1 b;unfold pC at hx;simp only[YX,X5,or_false]at hx;rcases hx with rfl|rfl<;>rfl
theorem J2:∀(k:List (YW × Nat)) (j:Nat) (x:YW × Nat),k[j]? = some x->(psC k)[2*j]? = some (.pointer (some x.1))/\(psC k)[2*j+1]? = some (iZ (x.2:Int))
 | [],j,x,h=>by simp at h
 | y :: r,0,x,h=>by
  obtain rfl:y=x:=by simpa using h
  exact⟨rfl,rfl⟩
 | y :: r,j+1,x,h=>by
  have:=J2 r j x (by simpa using h);have e:psC (y :: r)=pC y++psC r:=rfl;rw[e,XR (by show 2<=_;omega),XR (by show 2<=_;omega)];show(psC r)[2*(j+1)-2]? = _/\(psC r)[2*(j+1)+1-2]? = _;rw[show 2*(j+1)-2=2*j by omega,show 2*(j+1)+1-2=2*j+1 by omega];exact this
structure PLs(w W:Xs)(v:Xu)(ps:List (YW × Nat)):Prop where
 bl:kZ w W
 ow:W.ownsRow w.heap.size 101 2 v ps.length (psC ps)
 nn:v.ownBlock≠none
theorem PLs.lt{w W:Xs}{v:Xu}{b:List (YW × Nat)}(h:PLs w W v b):∃g cap,v=sZ g b.length cap/\w.heap.size<=g/\g<W.heap.size:=by
 rcases id h.ow with⟨-,⟨rfl,e⟩|⟨g,cap,cur,rfl,c,k,-⟩⟩
 ·exact absurd rfl h.nn
 ·refine⟨g,cap,rfl,c,?_⟩;by_cases d:g<W.heap.size
  ·exact d
  ·rw[ZL oM]at k;cases k
theorem PLs.below{w W W':Xs}{v:Xu}{e:List (YW × Nat)}(h:PLs w W v e)(c:kZ W W'):PLs w W' v e:=by
 refine⟨h.bl.trans (c.mono h.bl.size),?_,h.nn⟩;rcases h.ow with⟨d,k|⟨g,cap,cur,k,i,b,f⟩⟩
 ·exact⟨d,X9 k⟩
 ·refine⟨d,X0 ⟨g,cap,cur,k,i,?_,f⟩⟩;rw[c.block g (by
   by_cases j:g<W.heap.size
   ·exact j
   ·rw[ZL oM]at b;cases b)]
  exact b
theorem PLs.app{w W:Xs}{v:Xu}{f ys:List (YW × Nat)}{b m c:Nat}(h:PLs w W v f)(hx:W.rangeAt b 0 (psC ys))(l:ys.length=m)(J:f.length+m<=1000000)(F:0<m):
 ∃d W',(YA #[96,96] 96 #[v,sZ b m c]).run prog W=.ok d W'/\PLs w W' d (f++ys)/\W.grownBy W' v.ownBlock/\(d.ownBlock=v.ownBlock\/d.ownBlock=some W.heap.size):=by
 obtain⟨i,r,a⟩:=XA.1 R2;simp only[Ze.injEq]at a;obtain⟨y,G,D⟩:=a;obtain⟨z,s,n⟩:=XA.1 D;obtain⟨g,cap,rfl,I,E⟩:=h.lt;have p:∀(j:Nat) u,(psC ys)[j]? = some u->W.cell? ((⟨b,0,none⟩:YW).add j)=some u:=λj u B=>by rw[gU];exact hx j u B
 obtain⟨d,W',o,q,e,C⟩:=yBO (P:=prog) W w.heap.size 96 96 101 i z 2 16 Jg r s y G n dC _ f.length (psC f) h.ow (aZ b) m c (psC ys) (by rw[oY,l]) p (FX ys) (by unfold maxLen;omega) oM h.bl.size;have A:=yB (c:=c) Jg r s y oM h.ow (yDf (P:=prog) (size:=2) W Jg (aZ b) m c (psC ys) (by rw[oY,l]) p (FX ys)) oM o;refine⟨d,W',o,⟨⟨by rw[e.os,h.bl.os],by rw[e.tape,h.bl.tape],by rw[e.output,h.bl.output],XB h.bl.size e.size,λk x=>?_⟩,?_,?_⟩,e,A⟩
 ·rw[e.block k (Xz x h.bl.size) (by simp[Za];omega)];exact h.bl.block k x
 ·rw[XC,l,NW];exact q
 ·rcases q.2 with⟨H,-⟩|⟨K,t,cur,rfl,-⟩
  ·have:=(C.1 H).1;exact absurd this (by simp)
  ·simp[Za]
theorem PLs.at{w W:Xs}{g n c:Nat}{b:List (YW × Nat)}(h:PLs w W (sZ g n c) b)(j:Nat)(x:YW × Nat)(f:b[j]? = some x):W.rangeAt g (2*j) (pC x):=λk u e=>by
 have d:=J2 b j x f;have:=h.ow.cells (g:=g) rfl (2*j+k) u (by
  match k,e with
  | 0,h=>rw[<-h];exact d.1
  | 1,h=>rw[<-h];exact d.2)
 rw[gU,XD]at this;exact this
theorem N8(w:Xs)(k:List (YW × Nat))(b:k.length<=1000000):PLs w (w.alloc (.cells (psC k).toArray 101)) (sZ w.heap.size k.length k.length) k:=
 ⟨bJ w _,⟨oY k,.inr ⟨w.heap.size,k.length,(psC k).toArray,rfl,Xx _,Array.getElem?_push_size,Xx _,by unfold maxLen;omega,by rw[YD,oY],by rw[<-oY k];simp⟩⟩,by simp[Za]⟩
def lp(b o n:Nat):List (YW × Nat):=(Yt n).map λj=>((⟨b,o+j,none⟩:YW),33)
def uI(k:Nat):List (YW × Nat):=[(⟨k,0,none⟩,33),(⟨k,1,none⟩,33),(⟨k,2,none⟩,33),(⟨k,3,none⟩,33),(⟨k,4,none⟩,32),(⟨k,5,none⟩,32),(⟨k,6,none⟩,32)]
def endP(k:Nat):List (YW × Nat):=[(⟨k,9,none⟩,32),(⟨k,10,none⟩,32)]
theorem Ot(b o n:Nat):lp b o (n+1)=lp b o n++[(⟨b,o+n,none⟩,33)]:=by
 unfold lp;rw[List.range_succ,YU];rfl
theorem jT(b o n:Nat):(lp b o n).length=n:=by unfold lp;simp
def uD(k b d c f or e:Nat):Nat->List (YW × Nat)
 | 0=>uI k
 | 1=>uI k++lp b d c
 | _=>uI k++lp b d c++lp f or e
structure PI(w w1 w2 W:Xs)(v:Xu)(ps:List (YW × Nat)):Prop where
 pl:PLs w W v ps
 ne:v.ownBlock≠some w1.heap.size
 eq:W.heap[w1.heap.size]? = w2.heap[w1.heap.size]?
 sz:w2.heap.size<=W.heap.size
theorem PI.app{w k d W:Xs}{v:Xu}{f:List (YW × Nat)}{x:YW × Nat}(h:PI w k d W v f)(q:k.heap.size<d.heap.size)(s:f.length<=10000):
 ∃b W',(YA #[96,96] 96 #[v,sZ W.heap.size 1 1]).run prog (W.alloc (.cells (pC x).toArray 101))=.ok b W'/\PI w k d W' b (f++[x]):=by
 have g:=bJ W (.cells (pC x).toArray 101);have p:(W.alloc (.cells (pC x).toArray 101)).rangeAt W.heap.size 0 (psC [x]):=by
  have e:psC [x]=pC x:=yAh _;rw[e];exact oK W (pC x) _
 obtain⟨b,W',j,r,i,n⟩:=(h.pl.below g).app (m:=1) (c:=1) p rfl oM dC;have t:=h.sz;have o:(W.alloc (.cells (pC x).toArray 101)).heap.size=W.heap.size+1:=XF _ _;refine⟨b,W',j,r,?_,?_,?_⟩
 ·rcases n with e|e
  ·rw[e];exact h.ne
  ·rw[e,o];intro h;have:=XS.inj h;omega
 ·rw[i.block k.heap.size oM (λl=>h.ne l.symm),g.block k.heap.size oM];exact h.eq
 ·have:=i.size;omega
theorem WL(b o n c i:Nat)(d:i<n)(w:Xs):(Yi 27 (.slice (some ⟨b,o,none⟩) n c) (iZ i)).run prog w=.ok (.pointer (some ⟨b,o+i,none⟩)) w:=by
 have k:¬(i:Int)<0:=oM;have e:(i:Int)<(n:Int):=oM;have f:=gU b o i;go_simp
theorem Aw(d:Nat)(l r:Sv)(y u z or:Nat)(w:Xs)(N:d<w.heap.size)(h7:w.cell? ⟨d,7,none⟩=some l.v)(Z:w.cell? ⟨d,8,none⟩=some r.v)
 (H:l.n=0\/l.q=some ⟨y,u,none⟩) (L:r.n=0\/r.q=some ⟨z,or,none⟩) (E:l.n<=1000) (C:r.n<=1000) :
 XH prog 44 #[.pointer (some ⟨d,0,none⟩)] w λe w'=>∃v,e=.returned v/\PLs w w' v (uI d++lp y u l.n++lp z or r.n++endP d):=by
 obtain⟨P,s,cl⟩:=l;obtain⟨R,t,cr⟩:=r;dsimp only[Sv.v]at *;obtain⟨f,F⟩:∃f,Hid ((w.alloc (.cells #[.pointer (some ⟨d,0,none⟩),.int .i64 33,.pointer (some ⟨d,1,none⟩),.int .i64 33,.pointer (some ⟨d,2,none⟩),.int .i64 33,.pointer (some ⟨d,3,none⟩),.int .i64 33,.pointer (some ⟨d,4,none⟩),.int .i64 32,.pointer (some ⟨d,5,none⟩),.int .i64 32,.pointer (some ⟨d,6,none⟩),.int .i64 32] 101)).drew=f):=⟨_,rfl⟩
 obtain⟨a,A⟩:∃a,Hid ((f.alloc (.cells #[.slice P s cl,.slice R t cr] 27)).drew=a):=⟨_,rfl⟩
 have D:∀W:Xs,Below W.heap.size W W.drew:=λW=>⟨rfl,rfl,rfl,Xx _,λ_ _=>rfl⟩
 have p1:PLs w f (.slice (some ⟨w.heap.size,0,none⟩) 7 7) (uI d):=by
  rw[<-F.out];exact(N8 w (uI d) (by show 7<=_;omega)).below (D _)
 have b2:Below f.heap.size f a:=by
  rw[<-A.out];exact(bJ f _).trans ((D _).mono (by rw[XF];omega))
 have p2:=p1.below b2;have c7:f.cell? ⟨d,7,none⟩=some (.slice P s cl):=by rw[p1.bl.cell (p:=⟨d,7,none⟩) N];exact h7
 have c8:f.cell? ⟨d,8,none⟩=some (.slice R t cr):=by rw[p1.bl.cell (p:=⟨d,8,none⟩) N];exact Z
 have Y:a.cell? ⟨f.heap.size,0,none⟩=some (.slice P s cl):=by rw[<-A.out,yBB];exact fQ f _ _ 0 _ rfl
 have d1:a.cell? ⟨f.heap.size,1,none⟩=some (.slice R t cr):=by rw[<-A.out,yBB];exact fQ f _ _ 1 _ rfl
 have s2:f.heap.size<a.heap.size:=by rw[<-A.out,yDJ,XF];omega
 have U:Hid (PI w f a a (.slice (some ⟨w.heap.size,0,none⟩) 7 7) (uD d y u s z or t 0)):=⟨p2,by
  have:f.heap.size=w.heap.size+1:=by rw[<-F.out,yDJ,XF]
  simp[Za];omega,rfl,Xx _⟩
 have HN:Hid (∀(i:Nat) (W:Xs),i<2->W.heap[f.heap.size]? = a.heap[f.heap.size]?->∃q n c b o,W.cell? ⟨f.heap.size,i,none⟩=some (.slice q n c)/\(n=0\/q=some ⟨b,o,none⟩)/\n<=1000/\uD d y u s z or t (i+1)=uD d y u s z or t i++lp b o n/\(uD d y u s z or t i).length<=1007):=λi W Q hW=>by
  have B:∀k,W.cell? ⟨f.heap.size,k,none⟩=a.cell? ⟨f.heap.size,k,none⟩:=λk=>by
   unfold YO;rw[hW]
  match i,Q with
  | 0,_=>exact⟨P,s,cl,y,u,by rw[B];exact Y,H,E,rfl,by show 7<=_;omega⟩
  | 1,_=>exact⟨R,t,cr,z,or,by rw[B];exact d1,L,C,rfl,by show(uI d++lp y u s).length<=_;rw[XC,jT];show 7+s<=_;omega⟩
 have V:=Hid.mkP s2;clear p1 p2 b2 h7 Z Y d1 s2 D H L;go_enter func44,ntmps44;go_wp2;go_region
 rw[F.out];go_wp2;go_region
 rw[A.out];go_wp2;go_loopg [4,50] 2 (λgk s4 s50 wr=>∃i:Nat,i+gk=2/\s50=.int .i64 i/\Hid (PI w f a wr s4 (uD d y u s z or t i)))
 case atStart=>exact⟨0,rfl,rfl,U⟩
 case round =>
  obtain⟨i,Q,rfl,K⟩:=hrel;by_cases h2:i<2
  ·obtain⟨q,n,c,b,o,e1,G,e3,e4,e5⟩:=HN.out i wr h2 K.eq;have T:(i:Int)<2:=oM;have h0:∀W:Xs,(Yi 177 (.slice (some ⟨f.heap.size,0,none⟩) 2 2) (.int .i64 i)).run prog W=.ok (.pointer (some ⟨f.heap.size,i,none⟩)) W:=λW=>by
    have C:¬(i:Int)<0:=oM;have B:=gU f.heap.size 0 i;rw[XD]at B;go_simp
   have E2:=Hid.mkP G;have E4:=Hid.mkP e4;have E5:=Hid.mkP e5;clear G e4 e5;obtain⟨g,cap,rfl,-,-⟩:=K.pl.lt;have X:Hid (i+gk=2):=Q;clear Q;go_wp2;go_loopg [4,56] n (λm s4 s56 wi=>∃j:Nat,j+m=n/\s56=.int .i64 j/\Hid (PI w f a wi s4 (uD d y u s z or t i++lp b o j)))
   case atStart=>exact⟨0,oM,rfl,by
    have e:lp b o 0=[]:=rfl;rw[e,yAh];exact K⟩
   case round =>
    clear K;obtain⟨j,hj,rfl,K⟩:=hrel;obtain⟨g,cap,rfl,-,-⟩:=K.pl.lt;have H:(uD d y u s z or t i++lp b o j).length<=10000:=by
     have:=E5.out;rw[XC,jT];omega
    by_cases S:j<n
    ·have I:(j:Int)<(n:Int):=oM;obtain rfl:q=some ⟨b,o,none⟩:=by
      rcases E2.out with h|h
      ·omega
      ·exact h
     have h4:=WL b o n c j S;obtain⟨O,C⟩:∃O,Hid (wr.alloc (.cells (pC (⟨b,o+j,none⟩,33)).toArray 101)=O):=⟨_,rfl⟩
     obtain⟨v',W',E,B⟩:=K.app (x:=(⟨b,o+j,none⟩,33)) V.out H;rw[C.out]at E;obtain⟨g',M,rfl,-,-⟩:=B.pl.lt;generalize (uD d y u s z or t i++lp b o j++[((⟨b,o+j,none⟩:YW),33)]).length=N2 at E B;rw[YI,<-Ot]at B;have J:=Hid.mkP B;have R1:=Hid.mkP E;generalize (uD d y u s z or t i++lp b o j).length=N1 at R1⊢;clear K E B H;go_wp2_with (first|(refine dO (v:=.slice (some ⟨wr.heap.size,0,none⟩) 1 1) (w':=O) rfl (.buildSlice 96 1 #[(0,.tmp 63)]) rfl ?_ ?_;(rw[<-C.out];kernel_rfl))|(at_builtin;refine Lib.wpList_append_run O rfl _ _ _ _ rfl _ _ rfl rfl _ _ R1.out ?_)|fail)
     go_roundg (gk-1)
     case measure=>omega
     case rel=>exact⟨j+1,oM,rfl,J⟩
    ·have I:¬(j:Int)<(n:Int):=oM;obtain rfl:j=n:=oM;rw[<-E4.out]at K⊢;go_wp2;go_roundg (1-i)
     case measure =>
      have:=X.out;omega
     case rel=>exact⟨i+1,oM,rfl,K⟩
  ·have T:¬(i:Int)<2:=oM;obtain rfl:i=2:=oM;obtain⟨g,cap,rfl,-,-⟩:=K.pl.lt;have I:(uD d y u s z or t 2).length<=2007:=by
    show(uI d++lp y u s++lp z or t).length<=_;rw[XC,XC,jT,jT];show 7+_+_<=_;omega
   have O:=(bJ wr (.cells (psC (endP d)).toArray 101)).trans (⟨rfl,rfl,rfl,Xx _,λ_ _=>rfl⟩:Below wr.heap.size (wr.alloc (.cells (psC (endP d)).toArray 101)) (wr.alloc (.cells (psC (endP d)).toArray 101)).drew);have L:(wr.alloc (.cells (psC (endP d)).toArray 101)).drew.rangeAt wr.heap.size 0 (psC (endP d)):=by
    rw[World.rangeAt_drew];exact oK wr _ _
   obtain⟨v',W',E,B,-,-⟩:=(K.pl.below O).app (m:=2) (c:=2) L rfl oM dC;have C:Hid ((YA #[96,96] 96 #[.slice (some ⟨g,0,none⟩) (uD d y u s z or t 2).length cap,.slice (some ⟨wr.heap.size,0,none⟩) 2 2]).run prog (wr.alloc (.cells #[.pointer (some ⟨d,9,none⟩),.int .i64 32,.pointer (some ⟨d,10,none⟩),.int .i64 32] 101)).drew=.ok v' W'):=E;have J:=Hid.mkP B;obtain⟨g',M,rfl,-,-⟩:=B.lt;have G:uD d y u s z or t 2++endP d=uI d++lp y u s++lp z or t++endP d:=rfl;rw[G]at J C;generalize (uI d++lp y u s++lp z or t++endP d).length=N2 at J C;generalize (uD d y u s z or t 2).length=N1 at C⊢;clear K I E B O L G;go_wp2;go_region_law (refine H6 rfl (.tmp 68) (.tmp 77) 96 96 rfl (.slice (some ⟨g,0,none⟩) N1 cap) (.slice (some ⟨wr.heap.size,0,none⟩) 2 2) (by simp[yDh,XK]) (by simp[yDh,XK]) _ _ C.out ?_)
   go_wp2;go_ret;exact⟨_,rfl,J.out⟩
theorem KT:(prog.info? 5).map (λi=>(i.size,i.bytes,i.zero.map λz=>z.cells.size))=some (1,1,some 1):=kR
def bC(b:SP.Bs):List Xu:=b.toList.map SP.encB
theorem uJ(b:SP.Bs):(bC b).length=b.size:=by unfold bC;simp
theorem zQ(b:SP.Bs):∀u∈bC b,u.oneCell'=true:=by
 intro u k;obtain⟨x,-,rfl⟩:=Yw.1 k;rfl
theorem Mm(a b:SP.Bs):bC (a++b)=bC a++bC b:=by unfold bC;simp
theorem Pt.vl{W:Xs}{q:Option YW}{n c:Nat}{b:SP.Bs}(h:Pt W (.slice q n c) b):n=b.size/\VL W q n (bC b):=by
 obtain⟨p,r,l,k⟩:=h;injection l with e1 e2 e3
 subst e1 e2;refine⟨rfl,⟨uJ b,?_,?_,zQ b⟩⟩
 ·intro d;rcases k with k|⟨g,o,e,-⟩
  ·exact k
  ·rw[d]at e;cases e
 ·rcases k with k|⟨g,o,e,i,m⟩
  ·left;have:(bC b).length=0:=by rw[uJ];exact k
   exact List.length_eq_zero_iff.1 this
  ·right;refine⟨g,o,e,i,λj u f=>?_⟩;unfold bC at f;rw[Ys]at f;obtain⟨x,hx,rfl⟩:=XA.1 f;have d:j<b.size:=by
    have:=(XG.1 hx).1;simpa using this
   rw[(m j d).1];rw[getElem!_pos b j d];have:=(XG.1 hx).2;rw[Array.getElem_toList]at this;rw[this]
structure PuI(w w4 W:Xs)(gp gq:Nat)(v:Xu)(b:SP.Bs):Prop where
 bl:kZ w W
 ow:W.ownsRow w.heap.size 5 1 v b.size (bC b)
 nn:v.ownBlock≠none
 n1:v.ownBlock≠some gp
 n2:v.ownBlock≠some gq
 e1:W.heap[gp]? = w4.heap[gp]?
 e2:W.heap[gq]? = w4.heap[gq]?
 sz:w4.heap.size<=W.heap.size
 l1:gp<w4.heap.size
 l2:gq<w4.heap.size
theorem PuI.lt{w d W:Xs}{e i:Nat}{v:Xu}{b:SP.Bs}(h:PuI w d W e i v b):∃g cap,v=sZ g b.size cap/\w.heap.size<=g/\g<W.heap.size:=by
 rcases id h.ow with⟨-,⟨rfl,j⟩|⟨g,cap,cur,rfl,c,k,-⟩⟩
 ·exact absurd rfl h.nn
 ·refine⟨g,cap,rfl,c,?_⟩;by_cases f:g<W.heap.size
  ·exact f
  ·rw[ZL oM]at k;cases k
theorem PuI.below{w j W W':Xs}{c e:Nat}{v:Xu}{b:SP.Bs}(h:PuI w j W c e v b)(k:kZ W W'):PuI w j W' c e v b:=by
 have n:=h.sz;refine⟨h.bl.trans (k.mono h.bl.size),?_,h.nn,h.n1,h.n2,by rw[k.block c (by have:=h.l1;omega)];exact h.e1,by rw[k.block e (by have:=h.l2;omega)];exact h.e2,XB n k.size,h.l1,h.l2⟩;rcases h.ow with⟨i,f|⟨g,cap,cur,f,o,d,m⟩⟩
 ·exact⟨i,X9 f⟩
 ·refine⟨i,X0 ⟨g,cap,cur,f,o,?_,m⟩⟩;rw[k.block g (by
   by_cases l:g<W.heap.size
   ·exact l
   ·rw[ZL oM]at d;cases d)]
  exact d
theorem Ag:prog.underlying 23=some (.slice 5):=kR
theorem PuI.app{w y W:Xs}{n p:Nat}{v:Xu}{b x:SP.Bs}{q:Option YW}{c:Nat}(h:PuI w y W n p v b)(hx:VL W q x.size (bC x))(N:b.size+x.size<=1000000):
 ∃l W',(YA #[23,23] 23 #[v,.slice q x.size c]).run prog W=.ok l W'/\PuI w y W' n p l (b++x):=by
 obtain⟨i,r,F⟩:=XA.1 KT;simp only[Ze.injEq]at F;obtain⟨E,K,H⟩:=F;obtain⟨z,D,s⟩:=XA.1 H;obtain⟨g,cap,rfl,L,I⟩:=h.lt;have J:=h.sz;cases q with
 | none =>
  have A:=hx.nil rfl;obtain rfl:x=#[]:=Array.eq_empty_of_size_eq_zero A;rcases id h.ow with⟨-,⟨d,-⟩|⟨O,t,cur,d,C,M,B,G⟩⟩
  ·cases d
  ·injection d with d _ h0'
   injection d with d
   injection d with d
   subst d h0';have m:=yCj (P:=prog) W 23 23 23 5 i Ag r g 0 b.size cap (.slice none 0 c) 0 [] (Src.ofNil (e':=5) _ Ag c) B (λj f=>by cases f) (λj f=>by cases f);refine⟨_,_,m,?_⟩;rw[Array.append_empty];exact h
 | some a =>
  have m:∀(j:Nat) u,(bC x)[j]? = some u->W.cell? (a.add j)=some u:=λj u f=>by
   rcases hx.cells with d|⟨b,o,t,-,m⟩
   ·rw[d]at f;cases f
   ·obtain rfl:=XS.inj t;rw[gU];exact m j u f
  obtain⟨l,W',A,G,d,M⟩:=yBO (P:=prog) W w.heap.size 23 23 5 i z 1 1 Ag r D E K s dC _ b.size (bC b) h.ow a x.size c (bC x) (by rw[uJ];omega) m (zQ x) (by unfold maxLen;omega) oM h.bl.size;have C:=yB (c:=c) Ag r D E oM h.ow (yDf (P:=prog) (size:=1) W Ag a x.size c (bC x) (by rw[uJ];omega) m (zQ x)) oM A;have B:∀k,k<y.heap.size->l.ownBlock≠some k\/(sZ g b.size cap).ownBlock=some k:=λk t=>by
   rcases C with e|e
   ·by_cases hh:(sZ g b.size cap).ownBlock=some k
    ·exact X0 hh
    ·left;rw[e];exact hh
   ·left;rw[e];intro hh;have:=XS.inj hh;omega
  refine⟨l,W',A,⟨⟨by rw[d.os,h.bl.os],by rw[d.tape,h.bl.tape],by rw[d.output,h.bl.output],XB h.bl.size d.size,λk t=>?_⟩,?_,?_,?_,?_,?_,?_,?_,h.l1,h.l2⟩⟩
  ·rw[d.block k (Xz t h.bl.size) (by simp[Za];omega)];exact h.bl.block k t
  ·rw[Array.size_append,Mm];exact G
  ·rcases C with e|e<;>rw[e]
   ·simp[Za]
   ·simp
  ·rcases B n h.l1 with e|e
   ·exact e
   ·exact absurd e h.n1
  ·rcases B p h.l2 with e|e
   ·exact e
   ·exact absurd e h.n2
  ·rw[d.block n (by have:=h.l1;omega) (λe=>h.n1 e.symm)];exact h.e1
  ·rw[d.block p (by have:=h.l2;omega) (λe=>h.n2 e.symm)];exact h.e2
  ·exact XB J d.size
theorem Ej{y n m size c:Nat}{T e:Yd}{i:TypeInfo}{z:Xu}{W W':Xs}{v t:Xu}{xs d:List Xu}{a:YW}(H:prog.underlying T=some (.slice e))(D:prog.info? e=some i)(K:i.zero=some z)(C:i.size=size)(F:i.bytes<=1000)
 (f:W.ownsRow y e size v n xs) (s:Src prog size T (.slice (some a) m c) m d W) (k:n+m<=1000000000)
 (r:(YA #[T,T] T #[v,.slice (some a) m c]).run prog W=.ok t W'):t.ownBlock=v.ownBlock\/(t.ownBlock=some W.heap.size/\kZ W W'):=by
 subst C;have b:∀(q:Option YW) (cap:Nat) (olds:List Xu),v=.slice q n cap->cap<n+m->(yBQ i.size n (.slice q n cap)).run prog W.drew=.ok olds.toArray W.drew->t.ownBlock=v.ownBlock\/(t.ownBlock=some W.heap.size/\kZ W W'):=λq cap olds hv I w=>by
  have G:=uX (n+m) cap I;have B:yA1 (n+m) cap*i.bytes<=(2*(n+m)+768)*1000:=ZB G F;have p:=run_append_grow_src (P:=prog) W T T T e i z H D K q n cap olds w (.slice (some a) m c) m d s I oM (XB B (by clear G B;omega));rw[hv,p]at r;injection r with hr1 k
  right;refine⟨by rw[<-hr1];rfl,?_⟩;rw[<-k];exact(⟨rfl,rfl,rfl,Xx _,λ_ _=>rfl⟩:kZ W W.drew).trans (bJ W.drew _)
 rcases id f with⟨-,⟨rfl,rfl⟩|⟨g,cap,cur,rfl,N,J,Q,O,M,R⟩⟩
 ·by_cases L:m=0
  ·subst L;have E:=r;obtain⟨o,k⟩:∃o,(YA #[T,T] T #[.slice none 0 0,.slice (some a) 0 c]).run prog W=.ok (.slice none 0 0) o:=by
    rcases s.kind with⟨e',A⟩|A<;>exact⟨_,by simp[YA,yAw H,yAw A,sizeOf,typeInfo,D,s.len,s.cells];rfl⟩
   rw[k]at r;injection r with hr1 k
   left;rw[<-hr1]
  ·exact b none 0 [] rfl oM (run_firstCells_none W.drew i.size 0 0 0)
 ·by_cases o:n+m<=cap
  ·have p:=yCj (P:=prog) W T T T e i H D g 0 n cap (.slice (some a) m c) m d s o
    (λj A=>by
     have E:n*i.size+j<cur.size:=by
      rw[M];have G:j<m*i.size:=by rw[<-s.newsLen];exact A
      have B:(n+m)*i.size<=cap*i.size:=yAj _ o;rw[yAn]at B;omega
     simp[YO,J,XD,X4 E])
    (λj A=>by simp[Zi,J])
   rw[p]at r;injection r with hr1 k
   left;rw[<-hr1];rfl
  ·refine b (some (aZ g)) cap xs rfl oM ?_;exact run_firstCells_some W.drew i.size n (aZ g) n cap xs f.1 (λj u A=>by rw[yBB];exact f.cells (g:=g) rfl j u A)
structure Ap1(W W':Xs)(v v':Xu):Prop where
 os:W'.os=W.os
 tape:W'.tape=W.tape
 output:W'.output=W.output
 size:W.heap.size<=W'.heap.size
 keep:∀g,g<W.heap.size->v.ownBlock≠some g->W'.heap[g]? = W.heap[g]?
 mv:v'.ownBlock=v.ownBlock\/((∃g,v'.ownBlock=some g/\W.heap.size<=g)/\∀g,g<W.heap.size->W'.heap[g]? = W.heap[g]?)
theorem bG{W W':Xs}{b n k:Nat}{e:Yd}{v:Xu}{xs:List Xu}(h:W.ownsRow b e k v n xs)(i:∀g,v.ownBlock=some g->W'.heap[g]? = W.heap[g]?):W'.ownsRow b e k v n xs:=by
 rcases h with⟨c,j|⟨g,cap,cur,rfl,l,d,f⟩⟩
 ·exact⟨c,X9 j⟩
 ·exact⟨c,X0 ⟨g,cap,cur,rfl,l,by rw[i g rfl];exact d,f⟩⟩
theorem bU{W:Xs}{b n k g:Nat}{e:Yd}{v:Xu}{xs:List Xu}(h:W.ownsRow b e k v n xs)(c:v.ownBlock=some g):b<=g/\g<W.heap.size/\∃cur,W.heap[g]? = some (.cells cur e (0,0)):=by
 rcases h with⟨l,⟨rfl,-⟩|⟨f,cap,cur,rfl,i,d,j⟩⟩
 ·cases c
 ·obtain rfl:f=g:=XS.inj c;refine⟨i,?_,cur,d⟩;by_cases c:f<W.heap.size
  ·exact c
  ·rw[ZL oM]at d;cases d
def TyQ(W:Xs)(L g:Nat):Prop:=g<W.heap.size/\(g<L\/∃cur,W.heap[g]? = some (.cells cur 5 (0,0)))
theorem Ei{W:Xs}{B g c:Nat}{b:SP.Bs}(h:W.ownsRow B 5 1 (sZ g b.size c) b.size (bC b)):Holds SP.encB W g 0 b:=λk d=>by
 obtain⟨-,-,cur,f⟩:=bU h (g:=g) rfl;refine⟨?_,by simp[Zi,f]⟩;have e:=h.cells (g:=g) rfl k (SP.encB b[k]!) (by
  unfold bC;rw[Ys,XJ (by simpa using d),Option.map_some,getElem!_pos b k d];simp)
 rw[gU]at e;exact e
def RV(W:Xs)(L:Nat)(v:Xu)(b:SP.Bs):Prop:=(b.size=0/\v=.slice none 0 0)\/∃g c,v=sZ g b.size c/\TyQ W L g/\Holds SP.encB W g 0 b
theorem B7{k n ga:Nat}{W:Xs}{v x:Xu}{xs:List Xu}(b:W.ownsRow k 23 1 v n xs)(hx:x.oneCell'=true)(d:W.cell? ⟨ga,0,none⟩=some x)(I:n<=1000)(C:k<=W.heap.size):
 ∃e W',(YA #[27,27] 27 #[v,sZ ga 1 1]).run prog W=.ok e W'/\W'.ownsRow k 23 1 e (n+1) (xs++[x])/\Ap1 W W' v e:=by
 obtain⟨i,w,B⟩:=XA.1 Sg;simp only[Ze.injEq]at B;obtain⟨A,G,D⟩:=B;obtain⟨z,y,q⟩:=XA.1 D;have s:∀(j:Nat) u,[x][j]? = some u->W.cell? ((⟨ga,0,none⟩:YW).add j)=some u:=λj u t=>by
  rw[gU,XD];have f:j=0:=by have:=(XG.1 t).1;simp at this;omega
  subst f;obtain rfl:x=u:=by simpa using t
  exact d
 have f:∀u∈[x],u.oneCell'=true:=λu E=>by
  obtain rfl:u=x:=by simpa using E
  exact hx
 obtain⟨e,W',r,H,m,-⟩:=yBO (P:=prog) W k 27 27 23 i z 1 24 FB w y A G q dC v n xs b (aZ ga) 1 1 [x] rfl s f (by unfold maxLen;omega) oM C;have F:=Ej (c:=1) FB w y A oM b (yDf (P:=prog) (size:=1) W FB (aZ ga) 1 1 [x] rfl s f) oM r;refine⟨e,W',r,H,m.os,m.tape,m.output,m.size,λg o hv=>m.block g o (λh=>hv h.symm),?_⟩;rcases F with h|⟨h,p⟩
 ·exact X9 h
 ·exact X0 ⟨⟨_,h,Xx _⟩,λg o=>p.block g o⟩
section
variable {Q Q':Nat->Prop}{W:Xs}{v:Xu}{n:Nat}
theorem SmQ.mono2{l:List (Nat × Bs)}(h:SmQ Q W v l)(e:∀g,g<W.heap.size->Q g->Q' g):SmQ Q' W v l:=by
 obtain⟨g,c,b,d,i,k,f⟩:=h;exact⟨g,c,b,d,e g k i,k,f⟩
theorem SLq.mono2{a:Nat->Nat}(h:SLq Q W v n a)(e:∀g,g<W.heap.size->Q g->Q' g):SLq Q' W v n a:=by
 obtain⟨g,o,c,b,d,i,k,f⟩:=h;exact⟨g,o,c,b,d,e g k i,k,f⟩
theorem GLq.mono2{T:Nat->List (Nat × Bs)}(h:GLq Q W v n T)(b:∀g,g<W.heap.size->Q g->Q' g):GLq Q' W v n T:=by
 obtain⟨g,o,c,e,f,p,k,i⟩:=h;refine⟨g,o,c,e,f,b g k p,k,λj d=>?_⟩;obtain⟨x,m,l⟩:=i j d;exact⟨x,m,l.mono2 b⟩
theorem GRq.mono2{G H:Nat->List (Nat × Bs)}{U:List (Nat × Bs)}(h:GRq Q W v n G H U)(k:∀g,g<W.heap.size->Q g->Q' g):GRq Q' W v n G H U:=by
 obtain⟨i,b,e,d,f,j,c⟩:=h.ex;exact⟨i,b,e,d,f.mono2 k,j.mono2 k,c.mono2 k⟩
end
def ElQ(Q:Nat->Prop)(m:Nat)(W:Xs)(x:Xu)(b:Bs):Prop:=∃k c,x=sZ k m c/\m<=c/\b.size=m/\Q k/\k<W.heap.size/\Holds encB W k 0 b
section
variable {Q Q':Nat->Prop}{W W':Xs}{x:Xu}{m:Nat}{b:Bs}
theorem ElQ.keep(h:ElQ Q m W x b)(d:Kq Q W W'):ElQ Q m W' x b:=by
 obtain⟨k,c,l,n,p,f,g,o⟩:=h;refine⟨k,c,l,n,p,f,Xz g d.size,λj i=>?_⟩;have e:=d.block k f g;rw[XW (a:=⟨k,0+j,none⟩) e,Y0 (a:=⟨k,0+j,none⟩) e];exact o j i
theorem ElQ.mono2(h:ElQ Q m W x b)(j:∀g,g<W.heap.size->Q g->Q' g):ElQ Q' m W x b:=by
 obtain⟨k,c,f,i,n,e,d,l⟩:=h;exact⟨k,c,f,i,n,j k d e,d,l⟩
theorem ElQ.one(h:ElQ Q m W x b):x.cells=#[x]/\x.oneCell'=true:=by
 obtain⟨k,c,rfl,-⟩:=h;exact⟨rfl,rfl⟩
theorem ElQ.arg(h:ElQ Q 33 W x b):Arg33 W x b:=by
 obtain⟨k,c,rfl,d,g,-,e,f⟩:=h;exact⟨_,33,c,rfl,g,λ_=>⟨k,0,rfl,d,e,f⟩⟩
end
def r33(g:Nat):Xu:=sZ g 33 33
def r32(g:Nat):Xu:=sZ g 32 32
theorem eJ{a:Bs}(i:a.size=33)(w:Xs):XH prog 19 #[pvl a] w (rZ w λe w'=>ElQ (w.heap.size<=·) 33 w' e a/\∃g,e=r33 g):=by
 have f:=Hid.mk' (sM i w);obtain⟨c,b⟩:=hE (w.alloc (.cells (aA a).toArray 51));rw[b.out]at f;have K:Hid (Row c w.heap.size (aA a)/\kZ w c):=by rw[<-b.out];exact⟨row_new w _ _,aC w _⟩
 obtain⟨va,k⟩:=hE (pvl a);have d:Hid ((Yl 51 va).run prog w=.ok (jZ w.heap.size) c):=by rw[<-k.out];exact f
 rw[k.out];have j:=TT w.heap.size;go_enter func19,ntmps19;go_wp2_with (first|(refine aG (u:=va) (v:=jZ w.heap.size) (w':=c) rfl 51 (.tmp 0) rfl ?_ ?_ ?_;rfl;exact d.out))
 go_ret;exact⟨_,rfl,K.2,⟨w.heap.size,33,rfl,oM,i,Xx _,K.1.1,row_holds K.1⟩,_,rfl⟩
structure TlL(Q:Nat->Prop)(base i:Nat)(W:Xs)(v:Xu)(B:Nat->Bs):Prop where
 ex:∃xs,W.ownsRow base 23 1 v i xs/\∀j,j<i->∃x,xs[j]? = some x/\ElQ Q 33 W x (B j)
def QH(r k:Nat)(b c:Xu)(g:Nat):Prop:=g≠r/\(g<k\/k+4<=g)/\b.ownBlock≠some g/\c.ownBlock≠some g
def Dj(W:Xs)(B i j:Nat)(v u:Xu):Prop:=∃l m:List Nat,(l++m).Nodup/\W.ownsRow 0 23 1 v i (l.map r33)/\W.ownsRow 0 23 1 u j (m.map r33)/\∀g,g∈l++m->B<=g/\g<W.heap.size
theorem RO{l m:List Nat}{g:Nat}(h:(l++m).Nodup)(k:g ∉ l++m):(l++[g]++m).Nodup:=by
 simp only[yBz,Y3,not_or,YY,yAu,X5,not_false_eq_true,yD2,and_true,true_and]at *;grind
theorem Oo{l m:List Nat}(h:(l++m).Nodup):(m++l).Nodup:=by
 simp only[yBz]at *;grind
theorem J8{W:Xs}{b e n:Nat}{T:Yd}{v:Xu}{xs ys:List Xu}(k:W.ownsRow b T 1 v n xs)(c:W.ownsRow e T 1 v n ys):xs=ys:=by
 have i:=k.1;have m:=c.1;rcases id k with⟨-,⟨-,f⟩|⟨g,cap,cur,rfl,-⟩⟩
 ·subst f;rw[yCs (by omega:xs.length=0),yCs (by omega:ys.length=0)]
 ·refine List.ext_getElem? λj=>?_
  by_cases l:j<n
  ·have d:=k.cells (g:=g) rfl j xs[j] (XJ oM);have a2:=c.cells (g:=g) rfl j ys[j] (XJ oM);rw[d]at a2;rw[XJ (by omega:j<xs.length),XJ (by omega:j<ys.length)];exact a2
  ·rw[ZG oM,ZG oM]
section
variable {W W' W1:Xs}{B i j:Nat}{v u:Xu}
theorem Dj.keep(h:Dj W B i j v u)(e:W.heap.size<=W'.heap.size)(hv:∀g,v.ownBlock=some g->W'.heap[g]? = W.heap[g]?)(d:∀g,u.ownBlock=some g->W'.heap[g]? = W.heap[g]?):Dj W' B i j v u:=by
 obtain⟨l,m,c,f,n,k⟩:=h;exact⟨l,m,c,bG f hv,bG n d,λg b=>⟨(k g b).1,Xz (k g b).2 e⟩⟩
theorem Dj.swap(h:Dj W B i j v u):Dj W B j i u v:=by
 obtain⟨l,m,c,d,e,b⟩:=h;exact⟨m,l,Oo c,e,d,λg k=>b g (by rw[Y3]at k⊢;exact k.symm)⟩
theorem Dj.app{g:Nat}{o:Xu}{xs:List Xu}{b:Nat}(h:Dj W B i j v u)(f:B<=g/\W.heap.size<=g/\g<W'.heap.size)(w:W.heap.size<=W'.heap.size)(hx:W1.ownsRow b 23 1 v i xs)(hv:∀g,v.ownBlock=some g->W1.heap[g]? = W.heap[g]?)(t:∀g,u.ownBlock=some g->W'.heap[g]? = W.heap[g]?)(s:W'.ownsRow b 23 1 o (i+1) (xs++[r33 g])):Dj W' B (i+1) j o u:=by
 obtain⟨l,m,d,r,c,n⟩:=h;rw[J8 hx (bG r hv)]at s;refine⟨l++[g],m,RO d λe=>by have:=(n g e).2;omega,?_,bG c t,λp k=>?_⟩
 ·rw[YU];rcases s with⟨q,d|⟨g,cap,cur,rfl,r,c⟩⟩
  ·exact⟨q,X9 d⟩
  ·exact⟨q,X0 ⟨g,cap,cur,rfl,Zh _,c⟩⟩
 ·by_cases e:p=g
  ·rw[e];exact⟨f.1,f.2.2⟩
  ·have q:=n p (by simp only[Y3,YY]at k⊢;grind);exact⟨q.1,Xz q.2 w⟩
end
def R3(W:Xs)(K:Nat)(x y:Xu):Prop:=K<W.heap.size/\∃rs,rs.length=2/\Row W K (x :: y :: rs)
theorem R3.same{W W':Xs}{K:Nat}{x y:Xu}(h:R3 W K x y)(k:W.heap.size<=W'.heap.size)(e:W'.heap[K]? = W.heap[K]?):R3 W' K x y:=by
 obtain⟨b,rs,c,d⟩:=h;exact⟨Xz b k,rs,c,aS d k e⟩
structure Ph(w W:Xs)(r k iL iR n:Nat)(cL cR vL vR v va vb:Xu)(Lb Rb:Nat->Bs)(L:Bs)(a b:Nat->Nat)(G H:Nat->List (Nat × Bs))(U:List (Nat × Bs)):Prop where
 on:SP.Only r 0 32 w W
 rk:r<k
 wk:w.heap.size=k
 r0:Row W k [jZ r]
 r1:∃e:Array Xu,v=.agg e/\e.size=3/\e.all (·.oneCell')=true/\Row W (k+1) e.toList
 r2:Row W (k+2) [.slice none 0 0,.slice none 0 0,.slice none 0 0,.slice none 0 0]
 r3:R3 W (k+3) cL cR
 tL:TlL (QH r k vL vR) (k+4) iL W vL Lb
 tR:TlL (QH r k vL vR) (k+4) iR W vR Rb
 ne:∀g,vL.ownBlock=some g->vR.ownBlock≠some g
 la:SLq (QH r k vL vR) W va n a
 lb:SLq (QH r k vL vR) W vb n b
 gr:GRq (QH r k vL vR) W v n G H U
 lg:Holds encB W r 0 L
 ls:L.size=32
 dj:Dj W (k+4) iL iR vL vR
section
variable {w W W' W1:Xs}{r k iL iR n:Nat}{cL cR vL vR v va vb:Xu}{Lb Rb:Nat->Bs}{L:Bs}{a b:Nat->Nat}{G H:Nat->List (Nat × Bs)}{U:List (Nat × Bs)}
theorem TlL.lt{Q:Nat->Prop}{k i:Nat}{B:Nat->Bs}(h:TlL Q k i W v B){g:Nat}(c:v.ownBlock=some g):k<=g/\g<W.heap.size:=by
 obtain⟨xs,b,-⟩:=h.ex;have:=bU b c;exact⟨this.1,this.2.1⟩
theorem TlL.keep{Q:Nat->Prop}{k i:Nat}{B:Nat->Bs}(h:TlL Q k i W v B)(b:Kq Q W W')(ho:∀g,v.ownBlock=some g->W'.heap[g]? = W.heap[g]?):TlL Q k i W' v B:=by
 obtain⟨xs,e,f⟩:=h.ex;refine⟨xs,bG e ho,λj d=>?_⟩;obtain⟨x,l,c⟩:=f j d;exact⟨x,l,c.keep b⟩
theorem TlL.mono2{Q Q':Nat->Prop}{k i:Nat}{B:Nat->Bs}(h:TlL Q k i W v B)(f:∀g,g<W.heap.size->Q g->Q' g):TlL Q' k i W v B:=by
 obtain⟨xs,d,e⟩:=h.ex;refine⟨xs,d,λj c=>?_⟩;obtain⟨x,l,b⟩:=e j c;exact⟨x,l,b.mono2 f⟩
theorem Ph.qn(h:Ph w W r k iL iR n cL cR vL vR v va vb Lb Rb L a b G H U):∀g,W.heap.size<=g->QH r k vL vR g:=λg c =>
 ⟨by have:=h.rk;have:=h.r0.1;omega,X0 (by have:=h.r3.1;omega),λe=>by have:=h.tL.lt e;omega,λe=>by have:=h.tR.lt e;omega⟩
theorem Ph.any(h:Ph w W r k iL iR n cL cR vL vR v va vb Lb Rb L a b G H U)(o:SP.Only r 0 32 w W')(kq:Kq (QH r k vL vR) W W')(c:∀g,k<=g->g<k+4->W'.heap[g]? = W.heap[g]?)(i:∀g,vL.ownBlock=some g->W'.heap[g]? = W.heap[g]?)(j:∀g,vR.ownBlock=some g->W'.heap[g]? = W.heap[g]?){d:Bs}(l:Holds encB W' r 0 d)(f:d.size=32):Ph w W' r k iL iR n cL cR vL vR v va vb Lb Rb d a b G H U:=by
 obtain⟨e,p,q,e3,m⟩:=h.r1;exact⟨o,h.rk,h.wk,aS h.r0 kq.size (c k oM oM),⟨e,p,q,e3,aS m kq.size (c _ oM oM)⟩,aS h.r2 kq.size (c _ oM oM),h.r3.same kq.size (c _ oM oM),h.tL.keep kq i,h.tR.keep kq j,h.ne,h.la.keep kq,h.lb.keep kq,h.gr.keep kq,l,f,h.dj.keep kq.size i j⟩
theorem Ph.grow(h:Ph w W r k iL iR n cL cR vL vR v va vb Lb Rb L a b G H U)(c:kZ W W'):Ph w W' r k iL iR n cL cR vL vR v va vb Lb Rb L a b G H U:=by
 have e:=Holds.lt h.lg (by rw[h.ls];decide);exact h.any (h.on.trans (SP.Only.of_below c rfl e)) (Kq.of_below c) (λg f i=>c.block g (by have:=h.r3.1;omega)) (λg d=>c.block g (h.tL.lt d).2) (λg d=>c.block g (h.tR.lt d).2) (Holds.below h.lg c e) h.ls
theorem Ph.drew(h:Ph w W r k iL iR n cL cR vL vR v va vb Lb Rb L a b G H U):Ph w W.drew r k iL iR n cL cR vL vR v va vb Lb Rb L a b G H U:=h.grow ⟨rfl,rfl,rfl,Xx _,λ_ _=>rfl⟩
theorem Ph.say{e:Bs}(h:Ph w W r k iL iR n cL cR vL vR v va vb Lb Rb L a b G H U)(d:SP.Only r 0 32 W W')(f:Holds encB W' r 0 e)(i:e.size=32):Ph w W' r k iL iR n cL cR vL vR v va vb Lb Rb e a b G H U:=by
 have j:=h.rk;exact h.any (h.on.trans d) (Kq.of_only d λg c=>c.1) (λg l m=>d.block g (by have:=h.r3.1;omega) oM) (λg c=>d.block g (h.tL.lt c).2 (by have:=(h.tL.lt c).1;omega)) (λg c=>d.block g (h.tR.lt c).2 (by have:=(h.tR.lt c).1;omega)) f i
theorem Hg{i p:Xu}{k:Nat}(b:SP.Only r 0 32 w W)(c:Ap1 W W' i p)(q:w.heap.size=k)(m:r<k)(hv:∀g,i.ownBlock=some g->k+4<=g):SP.Only r 0 32 w W':=by
 have n:=b.size;have f:∀j,j<k->W'.heap[j]? = W.heap[j]?:=λj l=>c.keep j oM λe=>by have:=hv j e;omega
 exact⟨c.os.trans b.os,c.tape.trans b.tape,c.output.trans b.output,XB b.size c.size,λj l d=>(f j oM).trans (b.block j l d),λo ho=>by rw[XW (a:=⟨r,o,none⟩) (f r m)];exact b.cell o ho,λo=>by rw[Y0 (a:=⟨r,o,none⟩) (f r m)];exact b.froz o⟩
theorem jU{W W':Xs}{r:Nat}{L:Bs}(h:Holds encB W r 0 L)(e:W'.heap[r]? = W.heap[r]?):Holds encB W' r 0 L:=λj k=>by
 rw[XW (a:=⟨r,0+j,none⟩) e,Y0 (a:=⟨r,0+j,none⟩) e];exact h j k
theorem TlL.app{Q Q':Nat->Prop}{k i:Nat}{B:Nat->Bs}{f x:Xu}{xs:List Xu}(c:∀j,j<i->∃x,xs[j]? = some x/\ElQ Q 33 W x (B j))(b:xs.length=i)(ho:W'.ownsRow k 23 1 f (i+1) (xs++[x]))(hx:ElQ Q 33 W x (B i))(d:∀g,g<W.heap.size->Q g->Q' g)(kq:Kq Q' W W'):TlL Q' k (i+1) W' f B:=by
 refine⟨_,ho,λj n=>?_⟩;by_cases e:j=i
 ·subst e;exact⟨x,by rw[XR oM,b];simp,(hx.mono2 d).keep kq⟩
 ·obtain⟨y,l,m⟩:=c j oM;exact⟨y,by rw[XQ oM];exact l,(m.mono2 d).keep kq⟩
theorem Ph.appL{ga gx:Nat}(l:Ph w W1 r k iL iR n cL cR vL vR v va vb Lb Rb L a b G H U)(i:kZ W1 W)(o:ElQ (W1.heap.size<=·) 33 W (r33 gx) (Lb iL))(x:W.cell? ⟨ga,0,none⟩=some (r33 gx))(P:iL<=900):
 ∃j W',(YA #[27,27] 27 #[vL,sZ ga 1 1]).run prog W=.ok j W'/\Ph w W' r k (iL+1) iR n cL cR j vR v va vb Lb Rb L a b G H U/\Ap1 W W' vL j:=by
 have h:=l.grow i;have hx:=o.mono2 λg _ c=>l.qn g c
 obtain⟨xs,s,J⟩:=h.tL.ex;obtain⟨j,W',u,t,A⟩:=B7 s hx.one.2 x oM (by have:=h.r3.1;omega);have p:∀g,g<W.heap.size->QH r k vL vR g->QH r k j vR g:=λg c q=>⟨q.1,q.2.1,λe=>by
  rcases A.mv with m|⟨⟨I,m,E⟩,-⟩
  ·rw[m]at e;exact q.2.2.1 e
  ·rw[m]at e;have:=XS.inj e;omega,q.2.2.2⟩
 have kq:Kq (QH r k j vR) W W':=⟨A.size,λg q c=>by
  rcases A.mv with m|⟨-,m⟩
  ·exact A.keep g c (by rw[<-m];exact q.2.2.1)
  ·exact m g c⟩
 have d:∀g,vL.ownBlock=some g->k+4<=g:=λg c=>(h.tL.lt c).1
 have z:=h.on.size;have F:=h.wk;have C:=h.rk;have f:∀g,k<=g->g<k+4->W'.heap[g]? = W.heap[g]?:=λg O Q=>A.keep g (by have:=h.r3.1;omega) λe=>by have:=d g e;omega
 obtain⟨e,y,D,e3,K⟩:=h.r1;refine⟨j,W',u,⟨Hg h.on A h.wk h.rk d,h.rk,h.wk,aS h.r0 A.size (f k oM oM),⟨e,y,D,e3,aS K A.size (f _ oM oM)⟩,aS h.r2 A.size (f _ oM oM),h.r3.same A.size (f _ oM oM),TlL.app J (by have:=s.1;omega) t hx p kq,(h.tR.mono2 p).keep kq λg c=>A.keep g (h.tR.lt c).2 λe=>h.ne g e c,λg c e=>?_,(h.la.mono2 p).keep kq,(h.lb.mono2 p).keep kq,(h.gr.mono2 p).keep kq,jU h.lg (A.keep r oM λe=>by have:=d r e;omega),h.ls,(by
  obtain⟨N,R,e,-,-,M,B,-⟩:=o;have e:=congrArg Za e;obtain rfl:gx=N:=XS.inj e;exact(l.dj.app ⟨by have:=l.r3.1;omega,M,Xz B A.size⟩ (XB i.size A.size) s (λg c=>i.block g (l.tL.lt c).2) (λg c=>(A.keep g (h.tR.lt c).2 λe=>h.ne g e c).trans (i.block g (l.tR.lt c).2)) t))⟩,A⟩
 rcases A.mv with m|⟨⟨I,m,E⟩,-⟩
 ·rw[m]at c;exact h.ne g c e
 ·rw[m]at c;have:=XS.inj c;have:=(h.tR.lt e).2;omega
theorem Ph.appR{ga gx:Nat}(l:Ph w W1 r k iL iR n cL cR vL vR v va vb Lb Rb L a b G H U)(i:kZ W1 W)(o:ElQ (W1.heap.size<=·) 33 W (r33 gx) (Rb iR))(x:W.cell? ⟨ga,0,none⟩=some (r33 gx))(P:iR<=900):
 ∃j W',(YA #[27,27] 27 #[vR,sZ ga 1 1]).run prog W=.ok j W'/\Ph w W' r k iL (iR+1) n cL cR vL j v va vb Lb Rb L a b G H U/\Ap1 W W' vR j:=by
 have h:=l.grow i;have hx:=o.mono2 λg _ c=>l.qn g c
 obtain⟨xs,s,J⟩:=h.tR.ex;obtain⟨j,W',u,t,A⟩:=B7 s hx.one.2 x oM (by have:=h.r3.1;omega);have p:∀g,g<W.heap.size->QH r k vL vR g->QH r k vL j g:=λg c q=>⟨q.1,q.2.1,q.2.2.1,λe=>by
  rcases A.mv with m|⟨⟨I,m,E⟩,-⟩
  ·rw[m]at e;exact q.2.2.2 e
  ·rw[m]at e;have:=XS.inj e;omega⟩
 have kq:Kq (QH r k vL j) W W':=⟨A.size,λg q c=>by
  rcases A.mv with m|⟨-,m⟩
  ·exact A.keep g c (by rw[<-m];exact q.2.2.2)
  ·exact m g c⟩
 have d:∀g,vR.ownBlock=some g->k+4<=g:=λg c=>(h.tR.lt c).1
 have z:=h.on.size;have F:=h.wk;have C:=h.rk;have f:∀g,k<=g->g<k+4->W'.heap[g]? = W.heap[g]?:=λg O Q=>A.keep g (by have:=h.r3.1;omega) λe=>by have:=d g e;omega
 obtain⟨e,y,D,e3,K⟩:=h.r1;refine⟨j,W',u,⟨Hg h.on A h.wk h.rk d,h.rk,h.wk,aS h.r0 A.size (f k oM oM),⟨e,y,D,e3,aS K A.size (f _ oM oM)⟩,aS h.r2 A.size (f _ oM oM),h.r3.same A.size (f _ oM oM),(h.tL.mono2 p).keep kq λg c=>A.keep g (h.tL.lt c).2 λe=>h.ne g c e,TlL.app J (by have:=s.1;omega) t hx p kq,λg c e=>?_,(h.la.mono2 p).keep kq,(h.lb.mono2 p).keep kq,(h.gr.mono2 p).keep kq,jU h.lg (A.keep r oM λe=>by have:=d r e;omega),h.ls,(by
  obtain⟨N,R,e,-,-,M,B,-⟩:=o;have e:=congrArg Za e;obtain rfl:gx=N:=XS.inj e;exact(l.dj.swap.app ⟨by have:=l.r3.1;omega,M,Xz B A.size⟩ (XB i.size A.size) s (λg c=>i.block g (l.tR.lt c).2) (λg c=>(A.keep g (h.tL.lt c).2 λe=>h.ne g c e).trans (i.block g (l.tL.lt c).2)) t).swap)⟩,A⟩
 rcases A.mv with m|⟨⟨I,m,E⟩,-⟩
 ·rw[m]at e;exact h.ne g c e
 ·rw[m]at e;have:=XS.inj e;have:=(h.tL.lt c).2;omega
theorem lF{W:Xs}{K o:Nat}{vs:List Xu}{x:Xu}(h:Row W K vs)(ho:o<vs.length):Row (W.setCells K o [x]) K (vs.set o x):=by
 have c:W.there K o 1:=λt c=>by
  have k:t=0:=oM;subst k;have:=h.2.2 o ho;rwa[XD]at this
 refine⟨by rw[setCells_size];exact h.1,λj u b=>?_,by rw[yDQ];exact Y2 h.2.2 _ _ _⟩;rw[List.getElem?_set]at b;by_cases e:o=j
 ·subst e;rw[yES rfl,yES ho]at b;obtain rfl:x=u:=by simpa using b
  have:=YM W K o [x] c 0 x rfl;rw[XD];exact this
 ·rw[yET e]at b;have f:W.rangeAt K j [u]:=λt y d=>by
   have k:t=0:=by have:=(XG.1 d).1;simp at this;omega
   subst k;obtain rfl:u=y:=by simpa using d
   have:=h.2.1 j u b;rw[XD]at this;exact this
  have:=Yk f K o [x] (X0 (by simp;omega)) 0 u rfl;rw[XD];exact this
theorem jN{k K o:Nat}{vs:List Xu}(h:SP.Only r 0 32 w W)(b:w.heap.size=k)(d:r<k)(c:k<=K):SP.Only r 0 32 w (W.setCells K o vs):=dX h oM oM _
theorem Ph.put(h:Ph w W r k iL iR n cL cR vL vR v va vb Lb Rb L a b G H U):Ph w ((W.setCells (k+3) 0 [vL]).setCells (k+3) 1 [vR]) r k iL iR n vL vR vL vR v va vb Lb Rb L a b G H U:=by
 have m:=h.rk;have c:∀g,g≠k+3->((W.setCells (k+3) 0 [vL]).setCells (k+3) 1 [vR]).heap[g]? = W.heap[g]?:=λg f=>(aE (k+3) [vR] 1 _ g f).trans (aE (k+3) [vL] 0 W g f)
 have d:W.heap.size<=((W.setCells (k+3) 0 [vL]).setCells (k+3) 1 [vR]).heap.size:=by rw[setCells_size,setCells_size];exact Xx _
 have kq:Kq (QH r k vL vR) W ((W.setCells (k+3) 0 [vL]).setCells (k+3) 1 [vR]):=⟨d,λg q _=>c g (by have:=q.2.1;omega)⟩
 obtain⟨e,o,s,e3,l⟩:=h.r1;exact⟨jN (jN h.on h.wk h.rk oM) h.wk h.rk oM,h.rk,h.wk,aS h.r0 d (c _ oM),⟨e,o,s,e3,aS l d (c _ oM)⟩,aS h.r2 d (c _ oM),(by
  obtain⟨i,rs,j,p⟩:=h.r3;exact⟨Xz i d,rs,j,lF (lF p (yBC _)) (yDN (yBC _))⟩),h.tL.keep kq λg f=>c g (by have:=(h.tL.lt f).1;omega),h.tR.keep kq λg f=>c g (by have:=(h.tR.lt f).1;omega),h.ne,h.la.keep kq,h.lb.keep kq,h.gr.keep kq,jU h.lg (c r oM),h.ls,h.dj.keep d (λg f=>c g (by have:=(h.tL.lt f).1;omega)) (λg f=>c g (by have:=(h.tR.lt f).1;omega))⟩
theorem Ph.putA{o:Nat}{x:Xu}(h:Ph w W r k iL iR n cL cR vL vR v va vb Lb Rb L a b G H U)(ho:o<2):Ph w (W.setCells (k+3) (o+2) [x]) r k iL iR n cL cR vL vR v va vb Lb Rb L a b G H U:=by
 have l:=h.rk;have c:∀g,g≠k+3->(W.setCells (k+3) (o+2) [x]).heap[g]? = W.heap[g]?:=λg f=>aE (k+3) [x] _ _ g f
 have d:W.heap.size<=(W.setCells (k+3) (o+2) [x]).heap.size:=by rw[setCells_size];exact Xx _
 have kq:Kq (QH r k vL vR) W (W.setCells (k+3) (o+2) [x]):=⟨d,λg q _=>c g (by have:=q.2.1;omega)⟩
 obtain⟨e,i,m,e3,t⟩:=h.r1;exact⟨jN h.on h.wk h.rk oM,h.rk,h.wk,aS h.r0 d (c _ oM),⟨e,i,m,e3,aS t d (c _ oM)⟩,aS h.r2 d (c _ oM),(by
  obtain⟨p,rs,s,j⟩:=h.r3;exact⟨Xz p d,rs.set o x,by rw[yDQ,s],lF (o:=o+2) j (by simp;omega)⟩),h.tL.keep kq λg f=>c g (by have:=(h.tL.lt f).1;omega),h.tR.keep kq λg f=>c g (by have:=(h.tR.lt f).1;omega),h.ne,h.la.keep kq,h.lb.keep kq,h.gr.keep kq,jU h.lg (c r oM),h.ls,h.dj.keep d (λg f=>c g (by have:=(h.tL.lt f).1;omega)) (λg f=>c g (by have:=(h.tR.lt f).1;omega))⟩
theorem Ph.next{m:Nat}{j i:Xu}{e':Array Xu}{t s:Nat->Nat}{o p:Nat->List (Nat × Bs)}(h:Ph w W r k iL iR n cL cR vL vR v va vb Lb Rb L a b G H U)(A:SLq (QH r k vL vR) W j m t)(u:SLq (QH r k vL vR) W i m s)(d:GRq (QH r k vL vR) W (.agg e') m o p U):Ph w (W.setCells (k+1) 0 e'.toList) r k iL iR m cL cR vL vR (.agg e') j i Lb Rb L t s o p U:=by
 have z:=h.rk;have c:∀g,g≠k+1->(W.setCells (k+1) 0 e'.toList).heap[g]? = W.heap[g]?:=λg d=>aE (k+1) _ 0 W g d
 have f:W.heap.size<=(W.setCells (k+1) 0 e'.toList).heap.size:=by rw[setCells_size];exact Xx _
 have kq:Kq (QH r k vL vR) W (W.setCells (k+1) 0 e'.toList):=⟨f,λg q _=>c g (by have:=q.2.1;omega)⟩
 obtain⟨e,D,B,e3,C⟩:=h.r1;obtain⟨l,x,f2,y⟩:=d.ar;obtain rfl:e'=l:=by injection x
 exact⟨jN h.on h.wk h.rk oM,h.rk,h.wk,aS h.r0 f (c _ oM),⟨e',rfl,f2,y,C.put (by rw[XP,XP,f2,B])⟩,aS h.r2 f (c _ oM),h.r3.same f (c _ oM),h.tL.keep kq λg d=>c g (by have:=(h.tL.lt d).1;omega),h.tR.keep kq λg d=>c g (by have:=(h.tR.lt d).1;omega),h.ne,A.keep kq,u.keep kq,d.keep kq,jU h.lg (c r oM),h.ls,h.dj.keep f (λg d=>c g (by have:=(h.tL.lt d).1;omega)) (λg d=>c g (by have:=(h.tR.lt d).1;omega))⟩
end
end
section
open SPA
variable {P:Nat}[NeZero P]{N:Nat}[NeZero N]
abbrev wP{P:Nat}[NeZero P](X:OnP P):Bs:=wr X.1
theorem kM(a b:Nat->Fin N):∀n,prS N (λi=>(a i).val) (λi=>(b i).val) n=(Md.pr a b n).val
 | 0=>(yBw N).symm
 | n+1=>by
  show sPl N (prS N _ _ n) (sTi N (b n).val (a n).val)=(Md.pr a b n+a n*b n).val;rw[kM a b n,jP,eX];unfold sTi;rw[YF]
omit [NeZero N] in
theorem C7(x y:Fin N)(n:Nat)(a:Nat->Fin N)(i:Nat):oI N x.val y.val n (λi=>(a i).val) i=(Md.fS x y n a i).val:=by
 show sPl N (sTi N (a i).val x.val) (sTi N (a (n+i)).val y.val)=(x*a i+y*a (n+i)).val;rw[jP,eX,eX];unfold sTi;rw[YF (a i).val,YF (a (n+i)).val]
omit [NeZero N] in
theorem tZ{n c:Nat}{G H:Nat->List (Nat × Bs)}{U:List (Nat × Bs)}{g h:Nat->OnP P}{u:OnP P}(f:0<n)(j:0<c)(b:c*n<=64)(hG:Gd N n c G g)(d:Gd N n c H h)(e:Tl N U u)(m:0<U.length)(l:U.length<=16):GOk N n c G H U:=
 ⟨f,j,b,λi k=>⟨(hG.tl i k).ok,hG.len i k⟩,λi k=>⟨(d.tl i k).ok,d.len i k⟩,e.ok,m,l⟩
omit [NeZero N] in
theorem Tl.point(C:Fld P)(O:Ord N)(k:∀r:EC.Pt P,On r->mul N r=none){l:List (Nat × Bs)}{X:OnP P}(b:Tl N l X)(d:0<l.length)(c:l.length<=512){w:Xs}{v:Xu}(h:Sm 0 w v l):
 XH prog 33 #[v] w (rZ w λe w'=>e=pvl (wr X.1)):=by
 have:=h.point C O k d c b.lt b.pts;rw[b.sum]at this;exact this
theorem iCP:(prog.info? 51).map (·.size)=some 33:=kR
theorem JE(C:Fld P)(O:Ord N)(k:∀r:EC.Pt P,On r->mul N r=none){Q:Nat->Prop}{m c:Nat}{G H:Nat->List (Nat × Bs)}{U:List (Nat × Bs)}{g h:Nat->OnP P}{u:OnP P}(t:0<m)(s:0<c)(n:c*m<=64)(hG:Gd N m c G g)(o:Gd N m c H h)(p:Tl N U u)(y:0<U.length)(w:U.length<=16)(a b:Nat->Fin N):
 ∃l,(∀(W:Xs) (v va f:Xu),GRq Q W v m G H U->SLq Q W va m (λi=>(a i).val)->SLq Q W f m (λi=>(b i).val)->XH prog 143 #[v,va,f] W (rZ W λe w'=>Sm W.heap.size w' e l)) /\
  (∀(W:Xs) (v:Xu),Sm 0 W v l->XH prog 33 #[v] W (rZ W λe w'=>e=pvl (wr ((aD C k).hd a b g h u m).1))):=by
 have z:=tZ t s n hG o p y w;obtain⟨q,j⟩:=KX C k hG o p (d:=U.length) rfl a b;rw[<-kM]at q j;refine⟨_,λW v va f A B x=>GF O m c G H U z _ _ (λi _=>(a i).isLt) (λi _=>(b i).isLt) v va f W A B x,λW v hv=>q.point C O k (by rw[j];omega) (by rw[j];omega) hv⟩
end
section
section
variable {P:YG}{ops:Array Yo}{Q:yAL->Act->Xs->Prop}{S:Array Bool->Xs->Prop}
theorem bK{o:Yo}(k:o.guard=none)(t:Array Xu):YS o (yielded ops t)=true:=by
 unfold YS;rw[k]
def anyS(P:YG)(k:Array Yo)(Q:yAL->Act->Xs->Prop)(S:Array Bool->Xs->Prop):Nat->Array Bool->Act->Xs->Prop
 | 0,listed,a,w=>Yf .any k listed=[]/\Q .normal a w
 | fuel+1,listed,a,w=>(Yf .any k listed=[]->Q .normal a w) /\
  ∀i∈Yf .any k listed,wpOp P k Q i (λb w'=>S (listed.setIfInBounds i true) w'/\anyS P k Q S fuel (listed.setIfInBounds i true) b w') a w
theorem anyS.any:∀(b:Nat) (k:Array Bool) (a:Act) (w:Xs),anyS P ops Q S b k a w->wpAny P .any ops Q b k a w
 | 0,_,_,_,h=>h
 | b+1,_,_,_,h=>⟨h.1,λi c=>yCa (λd w' e=>anyS.any b _ d w' e.2) (h.2 i c)⟩
def Bef(S:Array Bool->Xs->Prop)(p:Nat)(w:Xs):Prop:=∃l:Array Bool,l.getD p false=false/\S l w
theorem anyS.first{p i:Nat}{y op:Yo}{v:Xu}(L:ops[i]? = some y)(hp:ops[p]? = some op)(N:∃e∈op.after,YT .any e=true/\e.on=i)(U:p≠i)(M:∀l w,S (yAD l i true) w->S l w)
 (q:∀(j:Nat) (o:Yo) cs b,ops[j]? = some o->o.op≠.select cs b) (Z:∀c a w,Q (.panic c) (a.put y.dst v) w->Q (.panic c) a w) :
 ∀(g:Nat) (d:Array Bool) (a:Act) (w:Xs),d.getD p false=false ->
  (∀j x,ops[j]? = some x->j≠i->d.getD j true=false->(∀e∈x.after,YT .any e=true->e.on≠i)->y.apart ops x=true) ->
  i∈Yf .any ops d->YieldsIf P ops (Bef S p) y v a->Bef S p w->S (d.setIfInBounds i true) w ->
  anyS P ops Q S g (d.setIfInBounds i true) (a.put y.dst v) w->anyS P ops Q S (g+1) d a w:=by
 intro g;induction g with
 | zero =>
  intro d a w _ _ B F R t H;refine⟨λh=>absurd B (by rw[h];exact X5),λj E=>?_⟩;by_cases f:j=i
  ·subst f;exact F.wpOp L R ⟨t,H⟩
  ·exact absurd (ready_mono E f) (by rw[H.1];exact X5)
 | succ g ih =>
  intro d a w X n B F R t H;refine⟨λh=>absurd B (by rw[h];exact X5),λj E=>?_⟩;by_cases f:j=i
  ·subst f;exact F.wpOp L R ⟨t,H⟩
  ·obtain⟨s,x,m,z⟩:=mem_ready.1 E;have r:∀e∈x.after,YT .any e=true->e.on≠i:=λe V J I=>by
    have u:=z e V J;have C:=(mem_ready.1 B).1;rw[I]at u;rcases Nat.lt_or_ge i d.size with A|A
    ·simp[A]at C u;rw[C]at u;cases u
    ·simp[ZL A]at u
   have C:j≠p:=by
    intro h;subst h;rw[hp]at m;obtain⟨e,V,J,u⟩:=N;injection m with m
    subst m;exact r e V J u
   have h2:=wpOp_putIf m (n j x m f s r) (λcs b=>q i y cs b L) (λcs b=>q j x cs b m) Z F (H.2 j (ready_mono E f));have K:(d.setIfInBounds j true).getD p false=false:=by rw[yAt false C];exact X
   refine yCa (λa' w' G=>?_) h2;have Y:(d.setIfInBounds i true).setIfInBounds j true=(d.setIfInBounds j true).setIfInBounds i true:=(Array.setIfInBounds_comm _ _ (yBb f))
   have u:=G.2.1;rw[Y]at u;have O:Bef S p w':=⟨_,by rw[yAt false C,yAt false (yBb U)];exact X,G.2.1⟩
   refine⟨M _ _ u,ih (d.setIfInBounds j true) a' w' K (λk ok hk T D W=>?_) (ready_mono B (yBb f)) G.1 O u ?_⟩
   ·refine n k ok hk T ?_ W;by_cases A:j=k
    ·subst A;exact s
    ·rw[yAt true A]at D;exact D
   ·rw[<-Y];exact G.2.2
theorem anyS.take{p i:Nat}{f:Yo}{v:Xu}{b:Nat}{k:Array Bool}{a:Act}{w:Xs}(o:ops[i]? = some f)(n:∀l w,S (yAD l i true) w->S l w)(r:YieldsIf P ops (Bef S p) f v a)(u:Bef S p w)(j:S (k.setIfInBounds i true) w)
 (h:anyS P ops Q S b (k.setIfInBounds i true) (a.put f.dst v) w) (d:waits ops p i=true:=by kernel_rfl) (t:yAo ops=true:=by kernel_rfl)
 (g:(k.getD p false || p == i)=false:=by kernel_rfl) (hf:yBn .any ops k i=true:=by kernel_rfl) (s:(Yf .any ops k).contains i=true:=by kernel_rfl)
 (q:∀c a w,Q (.panic c) (a.put f.dst v) w->Q (.panic c) a w:=by exact λ_ _ _ h=>h):anyS P ops Q S (b+1) k a w:=by
 rw[Bool.or_eq_false_iff]at g;unfold waits at d;cases ho:ops[p]? with
 | none=>rw[ho]at d;cases d
 | some op =>
  rw[ho]at d;obtain⟨e,x,m⟩:=Array.any_eq_true'.1 d;simp only[XO,beq_iff_eq]at m;exact anyS.first o ho ⟨e,x,m.1,m.2⟩ (by simpa using g.2) n (Region.noSelect_spec t) q b k a w g.1 (Region.free_spec o hf) (by simpa using s) r u j h
theorem anyS.step{i:Nat}{o:Yo}{b:Nat}{k:Array Bool}{a:Act}{w:Xs}(ho:ops[i]? = some o)(e:Yf .any ops k=[i])
 (h:∀c:Act->Xs->Prop,Shut (∀a w,S (k.setIfInBounds i true) w->anyS P ops Q S b (k.setIfInBounds i true) a w->c a w) ->
  if YS o (yielded ops a.tmps)=true then YV P o a w c Q else c (a.put o.dst Zp) w):anyS P ops Q S (b+1) k a w:=by
 refine⟨λf=>(by rw[e]at f;cases f),λj d=>?_⟩;rw[e,YY]at d;subst d;exact wpOp_step ho (λc l=>h c (λa w g m=>l a w ⟨g,m⟩))
theorem anyS.done{k:Array Bool}{a:Act}{w:Xs}(c:Yf .any ops k=[])(h:Q .normal a w):∀b,anyS P ops Q S b k a w
 | 0=>⟨c,h⟩
 | _+1=>⟨λ_=>h,by rw[c];intro i d;cases d⟩
theorem anyS.begin{id:Nat}{a:Act}{w:Xs}(S:Array Bool->Xs->Prop)(k:P.follows .mixedOrders=true)(h:anyS P ops Q S ops.size (XL ops.size false) a w.drew):(Zd id ops true).wp P Q a w:=
 wp_region_any k (anyS.any _ _ _ _ h)
section
variable {i p fuel:Nat}{o:Yo}{listed:Array Bool}{a:Act}{w w':Xs}{v:Xu}
theorem anyS.ins{d:Option Zs}{I:Sem Xu}(ho:ops[i]? = some o)(hx:I.run P w=.ok v w')(k:S (listed.setIfInBounds i true) w')(h:anyS P ops Q S fuel (listed.setIfInBounds i true) (a.put d v) w')
 (e:Yf .any ops listed=[i]:=by kernel_rfl) (c:o.guard=none:=by rfl) (f:Yb a.eval o=I >>= λv=>pure (ZN v):=by kernel_rfl) (hd:o.dst=d:=by kernel_rfl):anyS P ops Q S (fuel+1) listed a w:=by
 subst hd;exact anyS.step ho e λK b=>by
  rw[yES (bK c _)];unfold YV;rw[f,XT,hx];exact b.out _ _ k h
theorem anyS.cal{d:Option Zs}{f:ZY}{args:Array Xu}{R:Xu->Xs->Prop}(ho:ops[i]? = some o)(c:XH P f args w (Ret R))(h:∀v w',R v w'->S (listed.setIfInBounds i true) w'/\anyS P ops Q S fuel (listed.setIfInBounds i true) (a.put d v) w')
 (g:Yf .any ops listed=[i]:=by kernel_rfl) (b:o.guard=none:=by rfl) (hx:(Yb a.eval o).run P w=.ok (.enter f args) w:=by kernel_rfl) (hd:o.dst=d:=by kernel_rfl):anyS P ops Q S (fuel+1) listed a w:=by
 subst hd;exact anyS.step ho g λK k=>by
  rw[yES (bK b _)];unfold YV;rw[hx,Oper.upon_enter];refine c.mono ?_;rintro e w' ⟨v,rfl,hR⟩;exact k.out _ _ (h v w' hR).1 (h v w' hR).2
theorem anyS.sto{d:Option Zs}(ho:ops[i]? = some o)(k:Yd)(x y:yAf)(c:o.op=.store k x y)(b off:Nat)(u:Xu)(hv:u.cells=#[u])(p:u.oneCell'=true)(m:w.there b off 1)(j:(P.info? k).map (·.size)=some 1)
 (n:S (listed.setIfInBounds i true) (w.setCells b off [u])) (h:anyS P ops Q S fuel (listed.setIfInBounds i true) (a.put d Zp) (w.setCells b off [u])) (hx:a.eval x=oZ b off:=by kernel_rfl) (l:a.eval y=u:=by kernel_rfl)
 (f:Yf .any ops listed=[i]:=by kernel_rfl) (g:o.guard=none:=by rfl) (hd:o.dst=d:=by kernel_rfl):anyS P ops Q S (fuel+1) listed a w:=by
 subst hd;exact anyS.step ho f λK q=>by
  rw[yES (bK g _)];have f:=yCb (P:=P) w b off k #[u] m j (by simp[p]);have e:storeVar k ⟨b,off,none⟩ u=storeVar k ⟨b,off,none⟩ (.agg #[u]):=by
   unfold storeVar;rw[hv];rfl
  unfold YV Yb;simp only[c,hx,l,yA6,yAC,XT,Zj,Yu,e,f];exact q.out _ _ n h
theorem anyS.cel{d:Option Zs}{x:Xu}(ho:ops[i]? = some o)(p:Nat)(f:∀l w,S (yAD l i true) w->S l w)(T:Yd)(t:Zs)(b off:Nat)(e:o.op=.load T (.tmp t))(s:(P.underlying T).map (·.isRow)=some false)(q:∀w,Bef S p w->w.cell? ⟨b,off,none⟩=some x)(v:Bef S p w)(k:S (listed.setIfInBounds i true) w)
 (h:anyS P ops Q S fuel (listed.setIfInBounds i true) (a.put d x) w) (hx:a.eval (.tmp t)=oZ b off:=by kernel_rfl) (m:o.guard=none:=by rfl) (y:waits ops p i=true:=by kernel_rfl) (u:yAo ops=true:=by kernel_rfl)
 (n:(listed.getD p false || p == i)=false:=by kernel_rfl) (hf:yBn .any ops listed i=true:=by kernel_rfl) (r:(Yf .any ops listed).contains i=true:=by kernel_rfl)
 (j:∀c a w,Q (.panic c) (a.put o.dst x) w->Q (.panic c) a w:=by exact λ_ _ _ h=>h) (hd:o.dst=d:=by kernel_rfl):anyS P ops Q S (fuel+1) listed a w:=by
 subst hd;exact anyS.take (p:=p) ho f (X9 ⟨bK m _,λw g=>by
  unfold Yb;rw[e];dsimp only;rw[hx,XT,eN (q w g) s];rfl⟩) v k h y u n hf r j
theorem anyS.row{d:Option Zs}{cs:List Xu}(ho:ops[i]? = some o)(p:Nat)(f:∀l w,S (yAD l i true) w->S l w)(T:Yd)(t:Zs)(b off:Nat)(g:TypeDesc)(e:o.op=.load T (.tmp t))(v:P.underlying T=some g)(j:g.isRow=true)(s:(P.info? T).map (·.size)=some cs.length)(r:∀w,Bef S p w->w.rangeAt b off cs)(y:Bef S p w)(k:S (listed.setIfInBounds i true) w)
 (h:anyS P ops Q S fuel (listed.setIfInBounds i true) (a.put d (.agg cs.toArray)) w) (hx:a.eval (.tmp t)=oZ b off:=by kernel_rfl) (n:o.guard=none:=by rfl) (z:waits ops p i=true:=by kernel_rfl) (x:yAo ops=true:=by kernel_rfl)
 (q:(listed.getD p false || p == i)=false:=by kernel_rfl) (hf:yBn .any ops listed i=true:=by kernel_rfl) (u:(Yf .any ops listed).contains i=true:=by kernel_rfl)
 (m:∀c a w,Q (.panic c) (a.put o.dst (.agg cs.toArray)) w->Q (.panic c) a w:=by exact λ_ _ _ h=>h) (hd:o.dst=d:=by kernel_rfl):anyS P ops Q S (fuel+1) listed a w:=by
 subst hd;exact anyS.take (p:=p) ho f (yieldsIf_load_mid (bK n _) T (.tmp t) e b off hx cs g r v j s) y k h z x q hf u m
theorem anyS.val{d:Option Zs}{x:Xu}(ho:ops[i]? = some o)(p:Nat)(b:∀l w,S (yAD l i true) w->S l w)(n:Bef S p w)(k:S (listed.setIfInBounds i true) w)(h:anyS P ops Q S fuel (listed.setIfInBounds i true) (a.put d x) w)(hv:∀w,(Yb a.eval o).run P w=.ok (.value x) w:=by intro _;kernel_rfl)(f:o.guard=none:=by rfl)(q:waits ops p i=true:=by kernel_rfl)(m:yAo ops=true:=by kernel_rfl)
 (g:(listed.getD p false || p == i)=false:=by kernel_rfl) (hf:yBn .any ops listed i=true:=by kernel_rfl) (j:(Yf .any ops listed).contains i=true:=by kernel_rfl)
 (e:∀c a w,Q (.panic c) (a.put o.dst x) w->Q (.panic c) a w:=by exact λ_ _ _ h=>h) (hd:o.dst=d:=by kernel_rfl):anyS P ops Q S (fuel+1) listed a w:=by
 subst hd;exact anyS.take (p:=p) ho b (X9 ⟨bK f _,λw _=>hv w⟩) n k h q m g hf j e
theorem anyS.nxt{d:Option Zs}{x:Xu}(ho:ops[i]? = some o)(k:S (listed.setIfInBounds i true) w)(h:anyS P ops Q S fuel (listed.setIfInBounds i true) (a.put d x) w)(hv:(Yb a.eval o).run P w=.ok (.value x) w:=by kernel_rfl)(e:Yf .any ops listed=[i]:=by kernel_rfl)(c:o.guard=none:=by rfl)(hd:o.dst=d:=by kernel_rfl):anyS P ops Q S (fuel+1) listed a w:=by
 subst hd;exact anyS.step ho e λK b=>by
  rw[yES (bK c _)];unfold YV;rw[hv];exact b.out _ _ k h
end
end
end
section
open SPA
variable {P:Nat}[NeZero P]{N:Nat}[NeZero N]
theorem Nc:(prog.underlying 64).map (·.isRow)=some true:=kR
theorem KU:(prog.info? 64).map (·.size)=some 4:=kR
def DjF(B:Nat)(W:Xs)(t:Nat)(c d e f:Xu):Prop:=∃b k l m,e=r32 b/\f=r32 k/\(b :: k :: (l++m)).Nodup/\W.ownsRow 0 23 1 c t (l.map r33)/\W.ownsRow 0 23 1 d t (m.map r33)/\∀g,g∈b :: k :: (l++m)->B<=g/\g<W.heap.size
theorem DjF.keep{B i t:Nat}{W W':Xs}{k b e d:Xu}(h:DjF B W t k b e d)(j:i<=B)(r:W.heap.size<=W'.heap.size)(hv:∀g,k.ownBlock=some g->W'.heap[g]? = W.heap[g]?)(q:∀g,b.ownBlock=some g->W'.heap[g]? = W.heap[g]?):DjF i W' t k b e d:=by
 obtain⟨w,s,l,m,n,p,u,v,o,f⟩:=h;exact⟨w,s,l,m,n,p,u,bG v hv,bG o q,λg c=>⟨XB j (f g c).1,Xz (f g c).2 r⟩⟩
theorem DjF.of{B t c b:Nat}{W W':Xs}{v u:Xu}(h:Dj W B t t v u)(q:W.heap.size<=W'.heap.size)(hv:∀g,v.ownBlock=some g->W'.heap[g]? = W.heap[g]?)(j:∀g,u.ownBlock=some g->W'.heap[g]? = W.heap[g]?)(o:B<=W.heap.size)(r:W.heap.size<=c)(s:c<b)(p:b<W'.heap.size):DjF B W' t v u (r32 c) (r32 b):=by
 obtain⟨l,m,f,n,i,d⟩:=h;refine⟨c,b,l,m,rfl,rfl,?_,bG n hv,bG i j,λg k=>?_⟩
 ·rw[yAu,yAu];refine⟨λe=>?_,λe=>?_,f⟩
  ·rcases YX.1 e with e|e
   ·omega
   ·have:=(d _ e).2;omega
  ·have:=(d _ e).2;omega
 ·rcases YX.1 k with rfl|k
  ·exact⟨oM,oM⟩
  ·rcases YX.1 k with rfl|k
   ·exact⟨oM,oM⟩
   ·have:=d _ k;exact⟨this.1,oM⟩
structure PhR(w:Xs)(r t:Nat)(Lb Rb:Nat->Bs)(L:Bs)(A B:Bs)(e:Xu)(w':Xs):Prop where
 on:SP.Only r 0 32 w w'
 ex:∃vL vR vA vB,e=.agg #[vL,vR,vA,vB]/\TlL (λ_=>True) w.heap.size t w' vL Lb/\TlL (λ_=>True) w.heap.size t w' vR Rb/\ElQ (w.heap.size<=·) 32 w' vA A/\ElQ (w.heap.size<=·) 32 w' vB B
 lg:Holds encB w' r 0 L
 dj:∀vL vR vA vB,e=.agg #[vL,vR,vA,vB]->DjF w.heap.size w' t vL vR vA vB
theorem uLL:(prog.underlying 27).map (·.isRow)=some false:=kR
theorem iLL:(prog.info? 27).map (·.size)=some 1:=kR
theorem Xa(k:Nat)(n c:Nat)(w:Xs):(Yr 27 1 #[(0,sZ k n c)]).run prog w=.ok (sZ w.heap.size 1 1) (w.alloc (.cells #[sZ k n c] 23)):=kR
theorem Vj{Q:Nat->Prop}{W:Xs}{x:Xu}{b:Bs}(h:ElQ Q 33 W x b)(w:Xs):(Yr 27 1 #[(0,x)]).run prog w=.ok (sZ w.heap.size 1 1) (w.alloc (.cells #[x] 23)):=by
 obtain⟨k,c,rfl,-⟩:=h;exact Xa k 33 c w
theorem TlL.one{Q:Nat->Prop}{k i:Nat}{W:Xs}{v:Xu}{B:Nat->Bs}(h:TlL Q k i W v B):v.cells=#[v]/\v.oneCell'=true:=by
 obtain⟨xs,⟨-,⟨rfl,-⟩|⟨g,cap,cur,rfl,-⟩⟩,-⟩:=h.ex<;>exact⟨rfl,rfl⟩
theorem Ph.put'{w W W':Xs}{r k i j n:Nat}{m l c d v va g:Xu}{f Rb:Nat->Bs}{L:Bs}{a b:Nat->Nat}{G H:Nat->List (Nat × Bs)}{U:List (Nat × Bs)}(h:Ph w W r k i j n m l c d v va g f Rb L a b G H U)(e:W'=(W.setCells (k+3) 0 [c]).setCells (k+3) 1 [d]):Ph w W' r k i j n c d c d v va g f Rb L a b G H U:=e ▸ h.put
theorem anyS.fin{P:YG}{c:Array Yo}{Q:yAL->Act->Xs->Prop}{S:Array Bool->Xs->Prop}{k:Array Bool}{a:Act}{w:Xs}(d:Yf .any c k=[])(h:∀W,W=w->Q .normal a W)(b:Nat):anyS P c Q S b k a w:=anyS.done d (h w rfl) b
theorem LX(O:Ord N)(g:IsP N)(r:Nat)(L:Bs)(A B:OnP P)(X Y:Bs)(d:X=wP A)(l:Y=wP B):∃(s:Bs) (c:Fin N),Hid (chF N L A B=(s,c)/\s.size=32)/\Hid (∀W:Xs,Holds encB W r 0 L->L.size=32->XH prog 135 #[lgV r,.string ⟨#[108,101,102,116]⟩,pvl X,.string ⟨#[114,105,103,104,116]⟩,pvl Y] W (Ret λe w'=>SP.Only r 0 32 W w'/\Holds encB w' r 0 s/\e=nv c.val)):=by
 subst d l;have e:chF N L A B=(aX (kE [108,101,102,116] [114,105,103,104,116] L (wP A) (wP B)),kX N (kE [108,101,102,116] [114,105,103,104,116] L (wP A) (wP B))):=by unfold chF;dsimp only
 have j:=aL A.1;have f:=aL B.1;refine⟨_,_,⟨e,bD _ _⟩,λW m n=>?_⟩;have k:=uE O r L (wP A) (wP B) ⟨#[108,101,102,116]⟩ ⟨#[114,105,103,104,116]⟩ dC dC j f W m n;have i:kE (⟨#[108,101,102,116]⟩:ByteArray).data.toList (⟨#[114,105,103,104,116]⟩:ByteArray).data.toList L (wP A) (wP B)=kE [108,101,102,116] [114,105,103,104,116] L (wP A) (wP B):=rfl;rw[i]at k;have b:∀M,cha N M<N:=λM=>oU O _
 generalize kE [108,101,102,116] [114,105,103,104,116] L (wP A) (wP B)=M at k;rw[GW g.1 M (b M)]at k;exact k
theorem own_base{W:Xs}{c b n k:Nat}{e:Yd}{v:Xu}{xs:List Xu}(h:W.ownsRow c e k v n xs)(j:b<=c):W.ownsRow b e k v n xs:=by
 rcases h with⟨d,f|⟨g,cap,cur,rfl,i,l⟩⟩
 ·exact⟨d,X9 f⟩
 ·exact⟨d,X0 ⟨g,cap,cur,rfl,XB j i,l⟩⟩
theorem Ph.fin{w W:Xs}{r k t n:Nat}{f i v va C m l:Xu}{x Rb:Nat->Bs}{L A B:Bs}{a b:Nat->Nat}{G H:Nat->List (Nat × Bs)}{U:List (Nat × Bs)}(h:Ph w W r k t t n f i f i v va C x Rb L a b G H U)(K:ElQ (k+4<=·) 32 W m A)(D:ElQ (k+4<=·) 32 W l B)(hd:DjF (k+4) W t f i m l):
 Row W (k+2) [.slice none 0 0,.slice none 0 0,.slice none 0 0,.slice none 0 0]/\Row (W.setCells (k+2) 0 [f,i,m,l]) (k+2) [f,i,m,l]/\PhR w r t x Rb L A B (.agg #[f,i,m,l]) (W.setCells (k+2) 0 [f,i,m,l]):=by
 have F:=h.rk;have I:=h.wk;have j:∀g,g≠k+2->(W.setCells (k+2) 0 [f,i,m,l]).heap[g]? = W.heap[g]?:=λg u=>aE (k+2) _ 0 _ g u
 have p:W.heap.size<=(W.setCells (k+2) 0 [f,i,m,l]).heap.size:=by rw[setCells_size];exact Xx _
 have kq:Kq (QH r k f i) W (W.setCells (k+2) 0 [f,i,m,l]):=⟨p,λg q _=>j g (by have:=q.2.1;omega)⟩
 have s:Kq (k+4<=·) W (W.setCells (k+2) 0 [f,i,m,l]):=⟨p,λg q _=>j g oM⟩
 have z:∀ {y:Xu}{B:Nat->Bs},TlL (QH r k f i) (k+4) t W y B->TlL (λ_=>True) w.heap.size t (W.setCells (k+2) 0 [f,i,m,l]) y B:=λhx=>by
  have J:=(hx.keep kq λg o=>j g (by have:=(hx.lt o).1;omega)).mono2 (Q':=λ_=>True) λ_ _ _=>trivial
  obtain⟨xs,u,E⟩:=J.ex;exact⟨xs,own_base u oM,E⟩
 exact⟨h.r2,h.r2.put rfl,jN h.on h.wk h.rk oM,⟨_,_,_,_,rfl,z h.tL,z h.tR,(K.keep s).mono2 λg _ o=>oM,(D.keep s).mono2 λg _ o=>oM⟩,jU h.lg (j r oM),λa b c d e=>by
  injection e with e
  simp only[Array.mk.injEq,List.cons.injEq,and_true]at e;obtain⟨rfl,rfl,rfl,rfl⟩:=e;exact hd.keep oM p (λg o=>j g (by have:=(h.tL.lt o).1;omega)) (λg o=>j g (by have:=(h.tR.lt o).1;omega))⟩
omit [NeZero N] in
theorem eI(O:Ord N){a:Nat}(c:a<N)(w:Xs):XH prog 10 #[nv a] w (rZ w λe w'=>ElQ (w.heap.size<=·) 32 w' e (bx a)/\∃g,e=r32 g):=by
 refine(nS O c w).mono ?_;rintro e w' ⟨v,rfl,k,b,rfl⟩;exact⟨_,rfl,b.bel,⟨k,32,rfl,Xx _,cU a,b.le,b.lt,cb_holds b.range b.there⟩,k,rfl⟩
theorem iB1:(prog.info? 23).map (·.size)=some 1:=kR
theorem hvI{P:YG}{I:Sem Xu}{c:Sem Next}{x:Xu}(k:∀w,I.run P w=.ok x w)(b:c=I >>= λv=>pure (ZN v)):∀w,c.run P w=.ok (.value x) w:=λw=>by rw[b,XT,k w,Yu,Zj]
theorem nfB{b:Bool}(h:b=true):¬b=false:=λe=>by rw[h]at e;cases e
theorem Wq(m:Nat):((m+m:Nat):Int).tdiv 2=(m:Int):=by rw[Int.tdiv_eq_ediv_of_nonneg oM];omega
theorem NY(C:Fld P)(O:Ord N)(f:∀r:EC.Pt P,On r->mul N r=none)(hP:IsP N)(t:Nat)(ht:t<=6)(q:Md.Ps Bs (Fin N) (OnP P))(u:OnP P)(G0 H0:Nat->List (Nat × Bs))(U:List (Nat × Bs))(f0:Gd N (2^t) 1 G0 q.g)(dm:Gd N (2^t) 1 H0 q.h)(hU:Tl N U u)(e4:0<U.length)(dw:U.length<=16)
 (Lb Rb:Nat->Bs) (gs:∀j,Lb j=wP ((aD C f).pLi (chF N) ivF u t q j)) (gu:∀j,Rb j=wP ((aD C f).pTi (chF N) ivF u t q j)) (r:Nat) (v0 d6 cf:Xu) (w:Xs) (hL:Holds encB w r 0 q.s) (co:q.s.size=32) (hv:GRq (·≠r) w v0 (2^t) G0 H0 U) (ha:SLq (·≠r) w d6 (2^t) (λi=>(q.a i).val)) (K:SLq (·≠r) w cf (2^t) (λi=>(q.b i).val)) :
 XH prog 90 #[lgV r,v0,d6,cf] w (Ret (PhR w r t Lb Rb ((aD C f).pst (chF N) ivF u t q t).s (bx (((aD C f).pst (chF N) ivF u t q t).a 0).val) (bx (((aD C f).pst (chF N) ivF u t q t).b 0).val))):=by
 have hr:=Holds.lt hL (by rw[co];decide);obtain⟨k,hk⟩:∃k,Hid (w.heap.size=k):=⟨_,rfl⟩
 obtain⟨e0,gq,fn,fl⟩:=hv.ar;subst gq;obtain⟨w1,kd⟩:=hE (w.alloc (.cells #[jZ r] 159));obtain⟨w2,ke⟩:=hE (w1.alloc (.cells e0 150));obtain⟨w3,kf⟩:=hE (w2.alloc (.cells #[.slice none 0 0,.slice none 0 0,.slice none 0 0,.slice none 0 0] 64));obtain⟨w4,kx⟩:∃w4,Hid (w3.alloc (.cells #[.slice none 0 0,.slice none 0 0,.slice none 0 0,.slice none 0 0] 64)=w4):=⟨_,rfl⟩
 have z1:w1.heap.size=k+1:=by rw[<-kd.out,XF,hk.out]
 have z2:w2.heap.size=k+2:=by rw[<-ke.out,XF,z1]
 have z3:w3.heap.size=k+3:=by rw[<-kf.out,XF,z2]
 have g0:r<k:=by rw[<-hk.out];exact hr
 have K4:Hid (∃G H,Gd N (2^(t-0)) (2^0) G ((aD C f).pst (chF N) ivF u t q 0).g/\Gd N (2^(t-0)) (2^0) H ((aD C f).pst (chF N) ivF u t q 0).h/\Ph w w4 r k 0 0 (2^(t-0)) (.slice none 0 0) (.slice none 0 0) (.slice none 0 0) (.slice none 0 0) (.agg e0) d6 cf Lb Rb ((aD C f).pst (chF N) ivF u t q 0).s (λi=>(((aD C f).pst (chF N) ivF u t q 0).a i).val) (λi=>(((aD C f).pst (chF N) ivF u t q 0).b i).val) G H U):=by
  have b1:kZ w w1:=by rw[<-kd.out];exact aC _ _
  have D:kZ w1 w2:=by rw[<-ke.out];exact aC _ _
  have E:kZ w2 w3:=by rw[<-kf.out];exact aC _ _
  have F:kZ w3 w4:=by rw[<-kx.out];exact aC _ _
  have T:Row w1 k [jZ r]:=by rw[<-kd.out,<-hk.out];exact row_new w _ _
  have V:Row w2 (k+1) e0.toList:=by rw[<-ke.out,<-z1];exact row_new w1 e0.toList 150
  have S:Row w3 (k+2) [.slice none 0 0,.slice none 0 0,.slice none 0 0,.slice none 0 0]:=by rw[<-kf.out,<-z2];exact row_new w2 _ _
  have R:Row w4 (k+3) [.slice none 0 0,.slice none 0 0,.slice none 0 0,.slice none 0 0]:=by rw[<-kx.out,<-z3];exact row_new w3 _ _
  have bb:kZ w w4:=((b1.trans (D.mono b1.size)).trans (E.mono (XB b1.size D.size))).trans (F.mono (XB b1.size (XB D.size E.size)));have L:∀g,g<w.heap.size->g≠r->QH r k (.slice none 0 0) (.slice none 0 0) g:=λg M J=>⟨J,X9 (by rw[<-hk.out];exact M),(λe=>by cases e),(λe=>by cases e)⟩
  have A:∀(B:Nat->Bs) (Q:Nat->Prop),TlL Q (k+4) 0 w4 (.slice none 0 0) B:=λB Q=>⟨[],⟨rfl,X9 ⟨rfl,rfl⟩⟩,λj hj=>absurd hj (ZV _)⟩
  have kq:∀ {Q:Nat->Prop},Kq Q w w4:=Kq.of_below bb;exact⟨G0,H0,f0,dm,SP.Only.of_below bb rfl hr,g0,hk.out,((T.below D).below E).below F,⟨e0,rfl,fn,fl,(V.below E).below F⟩,S.below F,⟨R.1,[.slice none 0 0,.slice none 0 0],rfl,R⟩,A _ _,A _ _,(λg e=>by cases e),(ha.mono2 L).keep kq,(K.mono2 L).keep kq,(hv.mono2 L).keep kq,Holds.below hL bb hr,co,⟨[],[],yD2,⟨rfl,X9 ⟨rfl,rfl⟩⟩,⟨rfl,X9 ⟨rfl,rfl⟩⟩,λg M=>absurd M X5⟩⟩
 obtain⟨vl,ku⟩:=hE (lgV r);obtain⟨vG,b9⟩:=hE (X6 e0);have B1:Hid ((Yl 159 vl).run prog w=.ok (jZ k) w1):=by rw[<-ku.out,<-kd.out,<-hk.out];exact O1 r w
 have B2:Hid ((Yl 150 vG).run prog w1=.ok (.pointer (some ⟨k+1,0,none⟩)) w2):=by
  obtain⟨a1,a2,a3,ea⟩:∃a b c,e0=#[a,b,c]:=by
   obtain⟨E,D,A,e,-⟩:=hv.ex;injection e with e
   exact⟨E,D,A,e⟩
  rw[<-b9.out,<-ke.out,<-z1,ea];exact Dl a1 a2 a3 w1
 have HZ:=mk3 z2 z3 hk.out;have f4:=mk2 gs gu;have HF:Hid (Fld P/\Ord N/\IsP N/\Tl N U u/\0<U.length/\U.length<=16/\t<=6):=⟨C,O,hP,hU,e4,dw,ht⟩
 obtain⟨d,ey,eh⟩:=XA.1 uGr;have HD:=mk2 ey eh;rw[b9.out]at K4;rw[ku.out,b9.out];clear ey eh z1 z2 z3 kd ke hk hL co hv ha K f0 dm hU e4 dw fn fl hr O hP b9;go_enter func90,ntmps90;go_wp2_with (first|(refine aG (u:=vl) (v:=jZ k) (w':=w1) rfl 159 (.tmp 0) rfl ?_ ?_ ?_;rfl;exact B1.out)|(refine aG (u:=vG) (v:=.pointer (some ⟨k+1,0,none⟩)) (w':=w2) rfl 150 (.tmp 1) rfl ?_ ?_ ?_;rfl;exact B2.out)|(refine fU (v:=.pointer (some ⟨k+2,0,none⟩)) (w':=w3) rfl 64 8 rfl rfl ?_ ?_;(rw[<-kf.out,<-HZ.1];kernel_rfl))|(refine fU (v:=.pointer (some ⟨k+3,0,none⟩)) (w':=w4) rfl 64 9 rfl rfl ?_ ?_;(rw[<-kx.out,<-HZ.2.1];kernel_rfl))|fail)
 clear B1 B2 kf kx;simp only[XK,Xt,Xv,Xw];go_loopg [2,3] t (λm s2 s3 W=>∃i:Nat,i+m=t/\Hid (∃J F v G H,Gd N (2^(t-i)) (2^i) G ((aD C f).pst (chF N) ivF u t q i).g/\Gd N (2^(t-i)) (2^i) H ((aD C f).pst (chF N) ivF u t q i).h/\Ph w W r k i i (2^(t-i)) J F J F v s2 s3 Lb Rb ((aD C f).pst (chF N) ivF u t q i).s (λj=>(((aD C f).pst (chF N) ivF u t q i).a j).val) (λj=>(((aD C f).pst (chF N) ivF u t q i).b j).val) G H U))
 case atStart=>exact⟨0,oM,_,_,_,K4.out⟩
 case round =>
  obtain⟨i,gz,KM⟩:=hrel;by_cases hi:i<t
  ·obtain⟨J,F,v,G,H,hG,hH,h0⟩:=KM.out;clear KM;have HI:=Hid.mk' hi;obtain⟨m,hm⟩:∃m,m=2^(t-(i+1)):=⟨_,rfl⟩
   have ba:2^(t-i)=m+m:=by rw[hm,show t-i=t-(i+1)+1 by omega,Zf];omega
   have b7:0<m:=by rw[hm];exact yAM dC
   obtain⟨c,hc⟩:∃c,c=2^i:=⟨_,rfl⟩
   have kr:0<c:=by rw[hc];exact yAM dC
   have en:c*(m+m)<=64:=by
    rw[<-ba,hc,<-Nat.pow_add,show i+(t-i)=t by omega];exact XB (Nat.pow_le_pow_right dC HF.2.2.2.2.2.2) dC
   have k0:c*m<=64:=by have:=Nat.mul_le_mul_left c (show m<=m+m by omega);omega
   have fb:m<=64:=by have:=yAj m kr;omega
   have eS:(aD C f).pst (chF N) ivF u t q (i+1)=(aD C f).rI (chF N) ivF u m ((aD C f).pst (chF N) ivF u t q i):=by rw[hm];rfl
   have eL:(aD C f).pLi (chF N) ivF u t q i=(aD C f).pL u m ((aD C f).pst (chF N) ivF u t q i):=by rw[hm];rfl
   have eT:(aD C f).pTi (chF N) ivF u t q i=(aD C f).pT u m ((aD C f).pst (chF N) ivF u t q i):=by rw[hm];rfl
   have HE:Hid (2^(t-(i+1))=m/\2^(i+1)=c+c):=⟨hm.symm,by rw[Zf,hc];omega⟩
   rw[ba,<-hc]at hG hH;rw[ba]at h0;clear hm ba hc;generalize (aD C f).pst (chF N) ivF u t q i=L at hG hH h0 eS eL eT;have HS:Hid ((aD C f).pst (chF N) ivF u t q (i+1)=(aD C f).rI (chF N) ivF u m L/\(aD C f).pLi (chF N) ivF u t q i=(aD C f).pL u m L/\(aD C f).pTi (chF N) ivF u t q i=(aD C f).pT u m L):=⟨eS,eL,eT⟩
   clear eS eL eT;obtain⟨ga,oa,ca,rfl,fq,-⟩:=id h0.la;obtain⟨Z,ob,E,rfl,f9,-⟩:=id h0.lb;have sG:=Hid.mk' (YP hG (YP hH (YP b7 (YP kr (YP en (YP fb k0))))));obtain⟨l1,fj,em⟩:=JE (Q:=QH r k J F) C HF.2.1 f b7 kr k0 hG.high hH.low HF.2.2.2.1 HF.2.2.2.2.1 HF.2.2.2.2.2.1 L.a (λj=>L.b (m+j));obtain⟨l2,fa,ep⟩:=JE (Q:=QH r k J F) C HF.2.1 f b7 kr k0 hG.low hH.high HF.2.2.2.1 HF.2.2.2.2.1 HF.2.2.2.2.2.1 (λj=>L.a (m+j)) L.b;obtain⟨X,hX⟩:∃X,X=wP ((aD C f).pL u m L):=⟨_,rfl⟩
   obtain⟨Y,hY⟩:∃Y,Y=wP ((aD C f).pT u m L):=⟨_,rfl⟩
   have sX:X.size=33:=by rw[hX];exact aL _
   have sY:Y.size=33:=by rw[hY];exact aL _
   have bq:∀(W:Xs) (v:Xu),Sm 0 W v l1->XH prog 33 #[v] W (rZ W λe w'=>e=pvl X):=by rw[hX];exact em
   have c0:∀(W:Xs) (v:Xu),Sm 0 W v l2->XH prog 33 #[v] W (rZ W λe w'=>e=pvl Y):=by rw[hY];exact ep
   clear em ep;obtain⟨PH,h5⟩:∃PH:Xs->Prop,Hid (∀W,PH W↔Ph w W r k i i (m+m) J F J F v (.slice (some ⟨ga,oa,none⟩) (m+m) ca) (.slice (some ⟨Z,ob,none⟩) (m+m) E) Lb Rb L.s (λj=>(L.a j).val) (λj=>(L.b j).val) G H U):=⟨_,λ_=>Iff.rfl⟩
   have k4:Hid (∀W W':Xs,kZ W W'->PH W->PH W'):=λW W' K h=>(h5 W').2 (((h5 W).1 h).grow K)
   have K0:Hid (PH wr):=(h5 wr).2 h0;have gr:Hid (∀W,PH W->XH prog 142 #[v] W (Ret (CrR (QH r k J F) W m G H U))):=λW h=>IC m b7 oM G H U v W ((h5 W).1 h).gr
   have cS:Hid ((∀W (x:Xu),PH W->GRq (QH r k J F) W x m (λi=>G (m+i)) H U->XH prog 143 #[x,.slice (some ⟨ga,oa,none⟩) m ca,.slice (some ⟨Z,ob+m*4,none⟩) m (E-m)] W (rZ W λe w'=>Sm W.heap.size w' e l1))/\(∀W (x:Xu),PH W->GRq (QH r k J F) W x m G (λi=>H (m+i)) U->XH prog 143 #[x,.slice (some ⟨ga,oa+m*4,none⟩) m (ca-m),.slice (some ⟨Z,ob,none⟩) m E] W (rZ W λe w'=>Sm W.heap.size w' e l2))):=
    ⟨λW x h hx=>fj W x _ _ hx ((h5 W).1 h).la.low ((h5 W).1 h).lb.high,λW x h hx=>fa W x _ _ hx ((h5 W).1 h).la.high ((h5 W).1 h).lb.low⟩
   have cP:Hid ((∀(W:Xs) (v:Xu),Sm 0 W v l1->XH prog 33 #[v] W (rZ W λe w'=>e=pvl X))/\(∀(W:Xs) (v:Xu),Sm 0 W v l2->XH prog 33 #[v] W (rZ W λe w'=>e=pvl Y))):=⟨bq,c0⟩
   have br:=DY ga oa (m+m) ca m oM;have k8:=DX Z ob (m+m) E m oM f9;have k7:=DX ga oa (m+m) ca m oM fq;have bl:=DY Z ob (m+m) E m oM;rw[Nat.add_sub_cancel]at k8 k7;have h9:=mk4 sX sY hX hY;obtain⟨sx,cx,e6,f8⟩:∃(s:Bs) (c:Fin N),Hid (chF N L.s ((aD C f).pL u m L) ((aD C f).pT u m L)=(s,c)/\s.size=32)/\Hid (∀W:Xs,Holds encB W r 0 L.s->L.s.size=32->XH prog 135 #[lgV r,.string ⟨#[108,101,102,116]⟩,pvl X,.string ⟨#[114,105,103,104,116]⟩,pvl Y] W (Ret λe w'=>SP.Only r 0 32 W w'/\Holds encB w' r 0 s/\e=nv c.val)):=LX HF.2.1 HF.2.2.1 r L.s _ _ X Y hX hY;obtain⟨e1,ed,k9,bh,bs⟩:=h0.r1;have HV:=mk3 ed k9 bh;have R1:Hid (wr.rangeAt (k+1) 0 e1.toList/\(prog.info? 150).map (·.size)=some e1.toList.length):=⟨bs.2.1,by rw[XP,k9];exact iGr⟩
   obtain⟨n,hn⟩:=hE (m+m);have hq:(n:Int).tdiv 2=(m:Int):=by rw[<-hn.out];exact Wq m
   have i2:(1:Int)<(n:Int):=by rw[<-hn.out];omega
   rw[hn.out]at br k8 k7 bl;rw[hn.out];clear h0 fj fa bq c0 sX sY hX hY ed k9 bh bs hG hH en k0 fq f9 kr hi;go_wp2_with (first|(refine Yv rfl 150 (.tmp 5) rfl (k+1) 0 ?_ e1.toList d ?_ ?_ ?_ ?_ ?_;rfl;exact R1.1;exact HD.1;exact HD.2;exact R1.2;rw[show X6 e1.toList.toArray=v from HV.1.symm])|fail)
   refine(gr wr K0.out).mono ?_;rintro e W1 ⟨uu,rfl,gv,f1,f2,rfl,d5,d0,gc,ge,gg,fx⟩;have K1:=mk1 (k4 wr W1 gv K0.out);obtain⟨b1,h8⟩:∃b,Hid (W1.heap.size=b):=⟨_,rfl⟩
   obtain⟨W2,kv⟩:∃W,Hid (W1.alloc (.cells #[.slice none 0 0,.slice none 0 0,.slice none 0 0] 150)=W):=⟨_,rfl⟩
   obtain⟨W3,cj⟩:∃W,Hid (W2.alloc (.cells #[.slice none 0 0,.slice none 0 0,.slice none 0 0] 150)=W):=⟨_,rfl⟩
   obtain⟨W4,e9⟩:∃W,Hid (W3.setCells b1 0 f1.toList=W):=⟨_,rfl⟩
   obtain⟨W5,ek⟩:∃W,Hid (W4.setCells (b1+1) 0 f2.toList=W):=⟨_,rfl⟩
   have zz:W2.heap.size=b1+1:=by rw[<-kv.out,XF,h8.out]
   have bg:f1.toList.length=3:=by rw[XP];exact d5
   have c9:f2.toList.length=3:=by rw[XP];exact d0
   have F3:kZ W1 W3/\Row W3 b1 [.slice none 0 0,.slice none 0 0,.slice none 0 0]/\Row W3 (b1+1) [.slice none 0 0,.slice none 0 0,.slice none 0 0]:=by
    have bA:kZ W1 W2:=by rw[<-kv.out];exact aC _ _
    have A:kZ W2 W3:=by rw[<-cj.out];exact aC _ _
    have D:Row W2 b1 [.slice none 0 0,.slice none 0 0,.slice none 0 0]:=by rw[<-kv.out,<-h8.out];exact row_new W1 _ _
    have R:Row W3 (b1+1) [.slice none 0 0,.slice none 0 0,.slice none 0 0]:=by rw[<-cj.out,<-zz];exact row_new W2 _ _
    exact⟨bA.trans (A.mono bA.size),D.below A,R⟩
   have F4:kZ W1 W4/\Row W4 b1 f1.toList/\Row W4 (b1+1) [.slice none 0 0,.slice none 0 0,.slice none 0 0]:=by
    rw[<-e9.out];exact⟨RG.below_setCells (by rw[h8.out];exact Xx _) _ _ _ F3.1,F3.2.1.put (by rw[bg];rfl),aP F3.2.2 oM⟩
   have F5:kZ W1 W5/\Row W5 b1 f1.toList/\Row W5 (b1+1) f2.toList:=by
    rw[<-ek.out];exact⟨RG.below_setCells (by rw[h8.out];omega) _ _ _ F4.1,aP F4.2.1 oM,F4.2.2.put (by rw[c9];rfl)⟩
   have K5:=mk5 (k4 W1 W5 F5.1 K1.out) F5.2.1 F5.2.2 (gg.keep (Kq.of_below F5.1)) (fx.keep (Kq.of_below F5.1));have HT:Hid ((W2.heap.size=b1+1/\W3.there b1 0 f1.size/\W4.there (b1+1) 0 f2.size)/\f1.all (·.oneCell')=true/\f2.all (·.oneCell')=true/\(prog.info? 150).map (·.size)=some f1.size/\(prog.info? 150).map (·.size)=some f2.size/\(prog.info? 150).map (·.size)=some f1.toList.length/\(prog.info? 150).map (·.size)=some f2.toList.length):=⟨⟨zz,by rw[d5];exact F3.2.1.2.2,by rw[d0];exact F4.2.2.2.2⟩,gc,ge,by rw[d5];exact iGr,by rw[d0];exact iGr,by rw[bg];exact iGr,by rw[c9];exact iGr⟩
   obtain⟨y1,ds⟩:=hE (X6 f1);obtain⟨y2,ez⟩:=hE (X6 f2);rw[ds.out,ez.out];go_wp2_with (first|(refine alR 11 h8 kv ?_)|(refine fU (v:=.pointer (some ⟨b1+1,0,none⟩)) (w':=W3) rfl 150 12 rfl rfl ?_ ?_;(rw[<-cj.out,<-HT.1.1];kernel_rfl))|(refine X8 rfl 150 (.tmp 11) _ rfl b1 0 f1 ?_ ?_ ?_ ?_ ?_ ?_;rfl;exact ds.symm;exact HT.1.2.1;exact HT.2.2.2.1;exact HT.2.1;rw[e9.out])|(refine X8 rfl 150 (.tmp 12) _ rfl (b1+1) 0 f2 ?_ ?_ ?_ ?_ ?_ ?_;rfl;exact ez.symm;exact HT.1.2.2;exact HT.2.2.2.2.1;exact HT.2.2.1;rw[ek.out])|fail)
   refine(gwL [pE (.agg f1.toList.toArray),pE (.slice (some ⟨ga,oa,none⟩) n ca),pE (iZ m),pE (.slice (some ⟨ga,oa,none⟩) m ca),pE (.slice (some ⟨Z,ob,none⟩) n E),pE (iZ m),pE (.slice (some ⟨Z,ob+m*4,none⟩) m (E-m)),pM (λ_=>True) l1,pE (pvl X),RG.pN W5.heap.size z33] (λW=>kZ W5 W) (λW W' K h=>h.trans (K.mono h.size))).tail2 10 kR kR kR ⟨
    iN 150 11 b1 0 f1.toList uGr HT.2.2.2.2.2.1 rfl (λW T=>RG.range_below K5.2.1.2.1 T K5.2.1.1) (λ_=>rfl),
    gO 2 (.slice (some ⟨ga,oa,none⟩) n ca),
    gO 10 (iZ m),
    RG.gX 1 29 2 30 br,
    gO 3 (.slice (some ⟨Z,ob,none⟩) n E),
    gO 10 (iZ m),
    RG.gX 4 32 5 33 k8,
    nG 0 28 3 31 6 34 143 (λx y z=>#[x,y,z]) (λx y z W hx A hz T=>by
     obtain rfl:x=.agg f1.toList.toArray:=hx;obtain rfl:y=(.slice (some ⟨ga,oa,none⟩) m ca):=A;obtain rfl:z=(.slice (some ⟨Z,ob+m*4,none⟩) m (E-m)):=hz;refine(cS.1 W _ (k4 W5 W T K5.1) (K5.2.2.2.1.keep (Kq.of_below T))).mono ?_;rintro e W' ⟨uu,rfl,K,hs⟩;exact⟨_,rfl,K,hs.q.mono λ_ _=>trivial⟩),
    oG 7 35 33 (λx=>#[x]) (λx W hx T=>by
     have hx:=hx;refine(cP.1 W x hx.sm).mono ?_;rintro e W' ⟨uu,rfl,K,rfl⟩;exact⟨_,rfl,K,rfl⟩),
    tY z33 51 (λW W' hR T=>⟨_,rfl,T.size,hR⟩),yEU⟩ (XM _ _).drew ?_
   intro V ck hR T;have cd:=hR 8 dC;obtain⟨D,cz,h4,kn⟩:∃k,V 9=jZ k/\W5.heap.size<=k/\Row ck k z33:=hR 9 dC;obtain⟨W7,d1⟩:=hE (ck.setCells D 0 (aA X));have kh:=aB h9.1;have dd:kZ W5 W7:=by rw[<-d1.out];exact RG.below_setCells h4 _ _ _ T
   have g3:Row W7 D (aA X):=by rw[<-d1.out];exact kn.put (by rw[kh];rfl)
   have bp:Hid (ck.there D 0 (aA X).toArray.size/\(prog.info? 51).map (·.size)=some (aA X).toArray.size):=by
    rw[YD,kh];exact⟨kn.2.2,iCP⟩
   dsimp only[bY,YH,ZQ,ZR];simp only[XK,Xt,Xv,Xw];obtain⟨i0,c4⟩:=hE (pvl X);rw[cd,cz,c4.out];have dl:=mk1 (Xz ((h5 W5).1 K5.1).r3.1 h4);have c3:Hid (∀g,J.ownBlock=some g\/F.ownBlock=some g->g<D):=λg M=>by
    have h:=(h5 W5).1 K5.1;rcases M with M|M
    ·exact Xz (h.tL.lt M).2 h4
    ·exact Xz (h.tR.lt M).2 h4
   have K7:=mk4 (k4 W5 W7 dd K5.1) (K5.2.2.1.below dd) (K5.2.2.2.2.keep (Kq.of_below dd)) g3;go_wp2_with (first|(refine stR 13 d1 c4 bp.1 bp.2 (bQ X) ?_)|fail)
   refine(gwL [pE (.agg f2.toList.toArray),pE (.slice (some ⟨ga,oa,none⟩) n ca),pE (iZ m),pE (.slice (some ⟨ga,oa+m*4,none⟩) m (ca-m)),pE (.slice (some ⟨Z,ob,none⟩) n E),pE (iZ m),pE (.slice (some ⟨Z,ob,none⟩) m E),pM (λ_=>True) l2,pE (pvl Y),RG.pN W7.heap.size z33] (λW=>kZ W7 W) (λW W' K h=>h.trans (K.mono h.size))).tail2 10 kR kR kR ⟨
    iN 150 12 (b1+1) 0 f2.toList uGr HT.2.2.2.2.2.2 rfl (λW T=>RG.range_below K7.2.1.2.1 T K7.2.1.1) (λ_=>rfl),
    gO 2 (.slice (some ⟨ga,oa,none⟩) n ca),
    gO 10 (iZ m),
    RG.gX 1 38 2 39 k7,
    gO 3 (.slice (some ⟨Z,ob,none⟩) n E),
    gO 10 (iZ m),
    RG.gX 4 41 5 42 bl,
    nG 0 37 3 40 6 43 143 (λx y z=>#[x,y,z]) (λx y z W hx A hz T=>by
     obtain rfl:x=.agg f2.toList.toArray:=hx;obtain rfl:y=(.slice (some ⟨ga,oa+m*4,none⟩) m (ca-m)):=A;obtain rfl:z=(.slice (some ⟨Z,ob,none⟩) m E):=hz;refine(cS.2 W _ (k4 W7 W T K7.1) (K7.2.2.1.keep (Kq.of_below T))).mono ?_;rintro e W' ⟨uu,rfl,K,hs⟩;exact⟨_,rfl,K,hs.q.mono λ_ _=>trivial⟩),
    oG 7 44 33 (λx=>#[x]) (λx W hx T=>by
     have hx:=hx;refine(cP.2 W x hx.sm).mono ?_;rintro e W' ⟨uu,rfl,K,rfl⟩;exact⟨_,rfl,K,rfl⟩),
    tY z33 51 (λW W' hR T=>⟨_,rfl,T.size,hR⟩),yEU⟩ (XM _ _).drew ?_
   intro V dh hR T;have cd:=hR 8 dC;obtain⟨A,cz,h4,kn⟩:∃k,V 9=jZ k/\W7.heap.size<=k/\Row dh k z33:=hR 9 dC;obtain⟨W9,db⟩:∃W,Hid (dh.setCells A 0 (aA Y)=W):=⟨_,rfl⟩
   have kh:=aB h9.2.1;have ee:kZ W7 W9:=by rw[<-db.out];exact RG.below_setCells h4 _ _ _ T
   have gn:Row W9 A (aA Y):=by rw[<-db.out];exact kn.put (by rw[kh];rfl)
   have bt:Hid (dh.there A 0 (aA Y).toArray.size/\(prog.info? 51).map (·.size)=some (aA Y).toArray.size):=by
    rw[YD,kh];exact⟨kn.2.2,iCP⟩
   dsimp only[bY,YH,ZQ,ZR];simp only[XK,Xt,Xv,Xw];obtain⟨i3,bv⟩:=hE (pvl Y);rw[cd,cz,bv.out];have K9:Hid (PH W9/\Row W9 D (aA X)/\Row W9 A (aA Y)/\W9.heap.size<=W9.heap.size):=⟨k4.out W7 W9 ee K7.1,K7.2.2.2.below ee,gn,Xx _⟩
   have dp:=mk2 dl.out (Xz ((h5 W7).1 K7.1).r3.1 h4);have bo:Hid (∀g,J.ownBlock=some g\/F.ownBlock=some g->g<A):=λg M=>by
    have h:=(h5 W7).1 K7.1;rcases M with M|M
    ·exact Xz (h.tL.lt M).2 h4
    ·exact Xz (h.tR.lt M).2 h4
   go_wp2_with (first|(refine stR 14 db bv bt.1 bt.2 (bQ Y) ?_)|fail)
   obtain⟨dP,k2,k3⟩:=XA.1 uCP;have ki:(prog.info? 51).map (·.size)=some (aA X).length:=by rw[aB h9.1];exact iCP
   have kb:(prog.info? 51).map (·.size)=some (aA Y).length:=by rw[aB h9.2.1];exact iCP
   have ko:∀W W':Xs,kZ W W'->k+3<W.heap.size->D<W.heap.size->A<W.heap.size->(W.cell? ⟨k+3,0,none⟩=some J/\W.cell? ⟨k+3,1,none⟩=some F/\W.rangeAt D 0 (aA X)/\W.rangeAt A 0 (aA Y))->(W'.cell? ⟨k+3,0,none⟩=some J/\W'.cell? ⟨k+3,1,none⟩=some F/\W'.rangeAt D 0 (aA X)/\W'.rangeAt A 0 (aA Y)):=λW W' K h3 gj ky h=>⟨by rw[K.cell (p:=⟨k+3,0,none⟩) h3];exact h.1,by rw[K.cell (p:=⟨k+3,1,none⟩) h3];exact h.2.1,RG.range_below h.2.2.1 K gj,RG.range_below h.2.2.2 K ky⟩
   have cq:∀W W':Xs,W'.heap[k+3]? = W.heap[k+3]?->W'.heap[D]? = W.heap[D]?->W'.heap[A]? = W.heap[A]?->(W.cell? ⟨k+3,0,none⟩=some J/\W.cell? ⟨k+3,1,none⟩=some F/\W.rangeAt D 0 (aA X)/\W.rangeAt A 0 (aA Y))->(W'.cell? ⟨k+3,0,none⟩=some J/\W'.cell? ⟨k+3,1,none⟩=some F/\W'.rangeAt D 0 (aA X)/\W'.rangeAt A 0 (aA Y)):=λW W' e3 g5 gw h=>⟨by rw[XW (a:=⟨k+3,0,none⟩) e3];exact h.1,by rw[XW (a:=⟨k+3,1,none⟩) e3];exact h.2.1,λj u hj=>by rw[XW (a:=⟨D,0+j,none⟩) g5];exact h.2.2.1 j u hj,λj u hj=>by rw[XW (a:=⟨A,0+j,none⟩) gw];exact h.2.2.2 j u hj⟩
   have P9:=(h5 W9).1 K9.1;have gh:=P9.r3.1;obtain⟨-,i1,-,fe⟩:=P9.r3;have S9:W9.drew.cell? ⟨k+3,0,none⟩=some J/\W9.drew.cell? ⟨k+3,1,none⟩=some F/\W9.drew.rangeAt D 0 (aA X)/\W9.drew.rangeAt A 0 (aA Y):=⟨fe.2.1 0 _ rfl,fe.2.1 1 _ rfl,K9.2.1.2.1,K9.2.2.1.2.1⟩
   have z9:k+3<W9.drew.heap.size/\D<W9.drew.heap.size/\A<W9.drew.heap.size:=⟨P9.r3.1,K9.2.1.1,K9.2.2.1.1⟩
   have P9:=P9.drew;have dk:Lb i=X:=by rw[f4.1 i,HS.2.1];exact h9.2.2.1.symm
   have e8:Rb i=Y:=by rw[f4.2 i,HS.2.2];exact h9.2.2.2.symm
   have h7:∀(i:Nat),i≠13->i≠15->∀(l:Array Bool) (W:Xs),(((l.setIfInBounds i true).getD 13 false=false->W.cell? ⟨k+3,0,none⟩=some J)/\((l.setIfInBounds i true).getD 15 false=false->W.cell? ⟨k+3,1,none⟩=some F)/\W.rangeAt D 0 (aA X)/\W.rangeAt A 0 (aA Y))->((l.getD 13 false=false->W.cell? ⟨k+3,0,none⟩=some J)/\(l.getD 15 false=false->W.cell? ⟨k+3,1,none⟩=some F)/\W.rangeAt D 0 (aA X)/\W.rangeAt A 0 (aA Y)):=λi h1 h2 l W h=>⟨λe=>h.1 (by rw[yAt false h1];exact e),λe=>h.2.1 (by rw[yAt false h2];exact e),h.2.2⟩
   have mS:∀(l:Array Bool) (W:Xs),(W.cell? ⟨k+3,0,none⟩=some J/\W.cell? ⟨k+3,1,none⟩=some F/\W.rangeAt D 0 (aA X)/\W.rangeAt A 0 (aA Y))->((l.getD 13 false=false->W.cell? ⟨k+3,0,none⟩=some J)/\(l.getD 15 false=false->W.cell? ⟨k+3,1,none⟩=some F)/\W.rangeAt D 0 (aA X)/\W.rangeAt A 0 (aA Y)):=λl W h=>⟨λ_=>h.1,λ_=>h.2.1,h.2.2⟩
   refine anyS.begin (λl W=>(l.getD 13 false=false->W.cell? ⟨k+3,0,none⟩=some J)/\(l.getD 15 false=false->W.cell? ⟨k+3,1,none⟩=some F)/\W.rangeAt D 0 (aA X)/\W.rangeAt A 0 (aA Y)) kR ?_;have bS:∀(p:Nat),Bef (λl W=>(yEr l 13 false=false->YO W ⟨k+3,0,none⟩=some J)/\(yEr l 15 false=false->YO W ⟨k+3,1,none⟩=some F)/\yBu W D 0 (aA X)/\yBu W A 0 (aA Y)) p W9.drew:=λp=>⟨#[],by simp,mS _ _ S9⟩
   refine anyS.val (i:=0) (d:=some 46) (x:=.pointer (some ⟨k+3,0,none⟩)) rfl 13 (h7 0 dC dC) (bS 13) (mS _ _ S9) ?_;refine anyS.cel (i:=1) (d:=some 47) (x:=J) rfl 13 (h7 1 dC dC) 27 46 (k+3) 0 rfl uLL (λW ⟨l,e,h⟩=>h.1 e) (bS 13) (mS _ _ S9) ?_;refine anyS.row (i:=2) (d:=some 48) (cs:=aA X) rfl 13 (h7 2 dC dC) 51 13 D 0 dP rfl k2 k3 ki (λW ⟨l,e,h⟩=>h.2.2.1) (bS 13) (mS _ _ S9) ?_;refine anyS.val (i:=6) (d:=some 52) (x:=.pointer (some ⟨k+3,1,none⟩)) rfl 13 (h7 6 dC dC) (bS 13) (mS _ _ S9) ?_;refine anyS.cel (i:=7) (d:=some 53) (x:=F) rfl 15 (h7 7 dC dC) 27 52 (k+3) 1 rfl uLL (λW ⟨l,e,h⟩=>h.2.1 e) (bS 15) (mS _ _ S9) ?_;refine anyS.row (i:=8) (d:=some 54) (cs:=aA Y) rfl 14 (h7 8 dC dC) 51 14 A 0 dP rfl k2 k3 kb (λW ⟨l,e,h⟩=>h.2.2.2) (bS 14) (mS _ _ S9) ?_;refine anyS.cal (i:=3) (d:=some 49) rfl (eJ h9.1 W9.drew) (λxa Wa he=>?_);have Pa:=P9.grow he.1;have Sa:=ko _ _ he.1 z9.1 z9.2.1 z9.2.2 S9;have za:k+3<Wa.heap.size/\D<Wa.heap.size/\A<Wa.heap.size:=by have:=he.1.size;omega
   obtain⟨gx,rfl⟩:=he.2.2;have Ea:=he.2.1.mono2 λg _ M=>P9.qn g M
   have d3:=mk2 he.1 he.2.1;refine⟨mS _ _ Sa,?_⟩;have bb:=aC Wa (.cells #[r33 gx] 23);have gm:=Vj Ea Wa;have Pb:=Pa.grow bb;have Sb:=ko _ _ bb za.1 za.2.1 za.2.2 Sa;have zb:k+3<(Wa.alloc (.cells #[r33 gx] 23)).heap.size/\D<(Wa.alloc (.cells #[r33 gx] 23)).heap.size/\A<(Wa.alloc (.cells #[r33 gx] 23)).heap.size:=by have:=bb.size;omega
   have gp:=(row_new Wa [r33 gx] 23).2.1 0 _ rfl;refine anyS.ins (i:=4) (d:=some 50) (v:=sZ Wa.heap.size 1 1) (w':=Wa.alloc (.cells #[r33 gx] 23)) (I:=Yr 27 1 #[(0,r33 gx)]) rfl gm (mS _ _ Sb) ?_;obtain⟨R,Wc,fy,Pc,A1⟩:=P9.appL (ga:=Wa.heap.size) (gx:=gx) (d3.1.trans (bb.mono d3.1.size)) (by rw[dk];exact d3.2.keep (Kq.of_below bb)) gp oM;have Sc:=cq _ _ (A1.keep (k+3) zb.1 λe=>by have:=(Pb.tL.lt e).1;omega) (A1.keep D zb.2.1 λe=>by have:=c3.out _ (X9 e);omega) (A1.keep A zb.2.2 λe=>by have:=bo.out _ (X9 e);omega) Sb;have zc:k+3<Wc.heap.size/\D<Wc.heap.size/\A<Wc.heap.size:=by have:=A1.size;omega
   refine anyS.ins (i:=5) (d:=some 51) (v:=R) (w':=Wc) (I:=YA #[27,27] 27 #[J,sZ Wa.heap.size 1 1]) rfl fy (mS _ _ Sc) ?_;refine anyS.val (i:=12) (d:=some 58) (x:=.pointer (some ⟨k+3,0,none⟩)) rfl 13 (h7 12 dC dC) ⟨#[],by simp,mS _ _ Sc⟩ (mS _ _ Sc) ?_;refine anyS.cal (i:=9) (d:=some 55) rfl (eJ h9.2.1 Wc) (λxd Wd hu=>?_);have Pd:=Pc.grow hu.1;have Sd:=ko _ _ hu.1 zc.1 zc.2.1 zc.2.2 Sc;have zd:k+3<Wd.heap.size/\D<Wd.heap.size/\A<Wd.heap.size:=by have:=hu.1.size;omega
   obtain⟨gy,rfl⟩:=hu.2.2;have Ed:=hu.2.1.mono2 λg _ M=>Pc.qn g M
   have d9:=mk2 hu.1 hu.2.1;refine⟨mS _ _ Sd,?_⟩;have bd:=aC Wd (.cells #[r33 gy] 23);have dz:=Vj Ed Wd;have Pe:=Pd.grow bd;have Se:=ko _ _ bd zd.1 zd.2.1 zd.2.2 Sd;have ze:k+3<(Wd.alloc (.cells #[r33 gy] 23)).heap.size/\D<(Wd.alloc (.cells #[r33 gy] 23)).heap.size/\A<(Wd.alloc (.cells #[r33 gy] 23)).heap.size:=by have:=bd.size;omega
   have g4:(Wd.alloc (.cells #[r33 gy] 23)).cell? ⟨Wd.heap.size,0,none⟩=some (r33 gy):=(row_new Wd [r33 gy] 23).2.1 0 _ rfl;refine anyS.ins (i:=10) (d:=some 56) (v:=sZ Wd.heap.size 1 1) (w':=Wd.alloc (.cells #[r33 gy] 23)) (I:=Yr 27 1 #[(0,r33 gy)]) rfl dz (mS _ _ Se) ?_;have g6:ElQ (Wc.heap.size<=·) 33 (Wd.alloc (.cells #[r33 gy] 23)) (r33 gy) (Rb i):=by rw[e8];exact d9.2.keep (Kq.of_below bd)
   have g8:i<=900:=oM;have fu:=Pc.appR (ga:=Wd.heap.size) (gx:=gy) (d9.1.trans (bd.mono d9.1.size)) g6 g4 g8;obtain⟨S,Wf,gt,Pf,A2⟩:=fu;have Sf:=cq _ _ (A2.keep (k+3) ze.1 λe=>by have:=(Pe.tR.lt e).1;omega) (A2.keep D ze.2.1 λe=>by have:=c3.out _ (X0 e);omega) (A2.keep A ze.2.2 λe=>by have:=bo.out _ (X0 e);omega) Se;have zf:D<Wf.heap.size/\A<Wf.heap.size:=by have:=A2.size;omega
   refine anyS.ins (i:=11) (d:=some 57) (v:=S) (w':=Wf) (I:=YA #[27,27] 27 #[F,sZ Wd.heap.size 1 1]) rfl gt (mS _ _ Sf) ?_;have kg:=Pf.tL.one;have km:=Pf.tR.one;obtain⟨-,i4,-,cn⟩:=Pf.r3;have fd:Wf.there (k+3) 0 1:=λj hj=>cn.2.2 j (Xz hj (Nat.succ_le_succ (Zh _)))
   have dq:Wf.there (k+3) 1 1:=λj hj=>by
    have kk:j=0:=oM;subst kk;exact cn.2.2 1 (yDN (yBC _))
   have g7:D≠k+3:=by have:=dp.1;omega
   have fz:A≠k+3:=by have:=dp.2;omega
   have rg:∀(o:Nat) (x:Xu) (W:Xs),W.rangeAt D 0 (aA X)/\W.rangeAt A 0 (aA Y)->(W.setCells (k+3) o [x]).rangeAt D 0 (aA X)/\(W.setCells (k+3) o [x]).rangeAt A 0 (aA Y):=λo x W h=>⟨Yk h.1 _ _ _ (X9 g7),Yk h.2 _ _ _ (X9 fz)⟩
   have cy:=(lF (x:=R) (o:=0) cn (yBC _)).2.1 1 _ rfl;refine anyS.sto (i:=13) (d:=none) rfl 27 (.tmp 58) (.tmp 51) rfl (k+3) 0 R kg.1 kg.2 fd iLL ⟨λe=>absurd e (nfB kR),λ_=>cy,rg _ _ _ Sf.2.2⟩ ?_;refine anyS.nxt (i:=14) (d:=some 59) (x:=.pointer (some ⟨k+3,1,none⟩)) rfl ⟨λe=>absurd e (nfB kR),λ_=>cy,rg _ _ _ Sf.2.2⟩ ?_;refine anyS.sto (i:=15) (d:=none) rfl 27 (.tmp 59) (.tmp 57) rfl (k+3) 1 S km.1 km.2 (Y2 dq _ _ _) iLL ⟨λe=>absurd e (nfB kR),λe=>absurd e (nfB kR),rg _ _ _ (rg _ _ _ Sf.2.2)⟩ ?_;simp only[XK,Xt,Xv,Xw];refine anyS.fin kR (λWg eg=>?_) _;have Pg:=Pf.put' eg;have dy:Wg.rangeAt D 0 (aA X)/\Wg.rangeAt A 0 (aA Y):=by rw[eg];exact rg 1 S _ (rg 0 R _ Sf.2.2)
   have zg:D<Wg.heap.size/\A<Wg.heap.size:=by rw[eg,setCells_size,setCells_size];exact zf
   clear Pf Sf kg km fd dq rg cy zf mS h7 S9 P9 z9 ko cq eg;have KG:=Hid.mk' (YP Pg (YP dy zg));clear Pg dy zg;obtain⟨dL,c5,bi⟩:=XA.1 uLg;have ci:Hid ((prog.underlying 159=some dL/\dL.isRow=true)/\prog.underlying 51=some dP/\dP.isRow=true):=⟨⟨c5,bi⟩,k2,k3⟩
   have ka:Hid ((prog.info? 51).map (·.size)=some (aA X).length/\(prog.info? 51).map (·.size)=some (aA Y).length):=⟨ki,kb⟩
   clear c5 bi k2 k3 ki kb dk e8 gh;obtain⟨pX,fk⟩:∃v,Hid (pvl X=v):=⟨_,rfl⟩
   obtain⟨pY,ec⟩:∃v,Hid (pvl Y=v):=⟨_,rfl⟩
   have fh:Hid (XH prog 135 #[vl,.string ⟨#[108,101,102,116]⟩,pX,.string ⟨#[114,105,103,104,116]⟩,pY] Wg (Ret λe w'=>SP.Only r 0 32 Wg w'/\Holds encB w' r 0 sx/\e=nv cx.val)):=by
    rw[<-ku.out,<-fk.out,<-ec.out];exact f8.out Wg KG.1.lg KG.1.ls
   go_wp2_with (first|(refine Yv rfl 159 (.tmp 4) rfl k 0 ?_ [jZ r] dL ?_ ?_ ?_ ?_ ?_;rfl;exact KG.1.r0.2.1;exact ci.1.1;exact ci.1.2;exact iLg;rw[show X6 [jZ r].toArray=vl from ku.out])|(refine ldR 13 KG.2.1.1 fk uCP ka.1 ?_)|(refine ldR 14 KG.2.1.2 ec uCP ka.2 ?_)|fail)
   refine fh.mono ?_;rintro e Wh ⟨uu,rfl,eo,dx,rfl⟩;have f6:Hid (Ph w Wh r k (i+1) (i+1) (m+m) R S R S v (.slice (some ⟨ga,oa,none⟩) (m+m) ca) (.slice (some ⟨Z,ob,none⟩) (m+m) E) Lb Rb sx (λj=>(L.a j).val) (λj=>(L.b j).val) G H U):=KG.1.say eo dx e6.2;clear eo dx fh KG ci ka f8;obtain⟨x,hp⟩:∃x,Hid (cx.val=x):=⟨_,rfl⟩
   obtain⟨xi,h6⟩:∃x,Hid ((ivF cx).val=x):=⟨_,rfl⟩
   have f5:Hid (∀W:Xs,XH prog 144 #[nv x] W (rZ W λe w'=>e=nv xi)):=by
    rw[<-hp.out,<-h6.out];exact λW=>wH HF.2.1 cx.val cx.isLt W
   rw[hp.out];obtain⟨b5,bf⟩:∃b,Hid (Wh.heap.size=b):=⟨_,rfl⟩
   obtain⟨Wi,d2⟩:∃W,Hid (Wh.alloc (.cells #[uZ 0,uZ 0,uZ 0,uZ 0] 44)=W):=⟨_,rfl⟩
   obtain⟨Wj,bc⟩:∃W,Hid (Wi.setCells b5 0 (wn x)=W):=⟨_,rfl⟩
   have Fi:Hid (Row Wi b5 [uZ 0,uZ 0,uZ 0,uZ 0]/\kZ Wh Wi):=by rw[<-d2.out,<-bf.out];exact⟨row_new Wh _ _,aC _ _⟩
   have bj:kZ Wh Wj:=by rw[<-bc.out];exact RG.below_setCells (by rw[bf.out];exact Xx _) _ _ _ Fi.2
   have Kj:Hid (Ph w Wj r k (i+1) (i+1) (m+m) R S R S v (.slice (some ⟨ga,oa,none⟩) (m+m) ca) (.slice (some ⟨Z,ob,none⟩) (m+m) E) Lb Rb sx (λj=>(L.a j).val) (λj=>(L.b j).val) G H U/\Row Wj b5 (wn x)):=⟨f6.grow bj,by rw[<-bc.out];exact Fi.1.put rfl⟩
   obtain⟨vx,be⟩:∃v,Hid (nv x=v):=⟨_,rfl⟩
   have bk:Hid (∀W:Xs,XH prog 144 #[vx] W (rZ W λe w'=>e=nv xi)):=by rw[<-be.out];exact f5.out
   rw[be.out];clear bj f6 f5;go_wp2_with (first|(refine alR 15 bf d2 ?_)|(refine stR 15 bc be Fi.1.2.2 nSc (aI x) ?_)|(refine ldR 15 Kj.2.2.1 be rSc nSc ?_)|fail)
   refine(bk Wj).mono ?_;rintro e Wk ⟨uu,rfl,h4,rfl⟩;obtain⟨b6,kt⟩:∃b,Hid (Wk.heap.size=b):=⟨_,rfl⟩
   obtain⟨Wl,d4⟩:∃W,Hid (Wk.alloc (.cells #[uZ 0,uZ 0,uZ 0,uZ 0] 44)=W):=⟨_,rfl⟩
   obtain⟨Wm,kz⟩:∃W,Hid (Wl.setCells b6 0 (wn xi)=W):=⟨_,rfl⟩
   have Fl:Hid (Row Wl b6 [uZ 0,uZ 0,uZ 0,uZ 0]/\kZ Wk Wl):=by rw[<-d4.out,<-kt.out];exact⟨row_new Wk _ _,aC _ _⟩
   have bm:kZ Wj Wm:=by
    have:kZ Wk Wm:=by rw[<-kz.out];exact RG.below_setCells (by rw[kt.out];exact Xx _) _ _ _ Fl.2
    exact h4.trans (this.mono h4.size)
   have Km:Hid (Ph w Wm r k (i+1) (i+1) (m+m) R S R S v (.slice (some ⟨ga,oa,none⟩) (m+m) ca) (.slice (some ⟨Z,ob,none⟩) (m+m) E) Lb Rb sx (λj=>(L.a j).val) (λj=>(L.b j).val) G H U/\Row Wm b5 (wn x)/\Row Wm b6 (wn xi)):=⟨Kj.1.grow bm,Kj.2.below bm,by rw[<-kz.out];exact Fl.1.put rfl⟩
   obtain⟨vi,f3⟩:∃v,Hid (nv xi=v):=⟨_,rfl⟩
   rw[f3.out];clear bm h4 Kj Fi bk d2 bc bf;go_wp2_with (first|(refine alR 16 kt d4 ?_)|(refine stR 16 kz f3 Fl.1.2.2 nSc (aI xi) ?_)|fail)
   clear Fl d4 kz kt;simp only[XK,Xt,Xv,Xw];have kw:x<N:=by rw[<-hp.out];exact cx.isLt
   have kl:xi<N:=by rw[<-h6.out];exact(ivF cx).isLt
   have f7:sIn N x=xi:=by rw[<-hp.out,<-h6.out];rfl
   have e7:GOk N (m+m) c G H U:=tZ (by have:=sG.2.2.1;omega) sG.2.2.2.1 sG.2.2.2.2.1 sG.1 sG.2.1 HF.2.2.2.1 HF.2.2.2.2.1 HF.2.2.2.2.2.1;have PW:Hid (∀W,kZ Wm W->Ph w W r k (i+1) (i+1) (m+m) R S R S v (.slice (some ⟨ga,oa,none⟩) (m+m) ca) (.slice (some ⟨Z,ob,none⟩) (m+m) E) Lb Rb sx (λj=>(L.a j).val) (λj=>(L.b j).val) G H U):=λW K=>Km.1.grow K
   have cF:Hid ((∀W,kZ Wm W->XH prog 145 #[.slice (some ⟨ga,oa,none⟩) n ca,nv x,nv xi] W (rZ W λe w'=>SLq (QH r k R S) w' e m (oI N x xi m (λj=>(L.a j).val))))/\(∀W,kZ Wm W->XH prog 145 #[.slice (some ⟨Z,ob,none⟩) n E,nv xi,nv x] W (rZ W λe w'=>SLq (QH r k R S) w' e m (oI N xi x m (λj=>(L.b j).val))))/\(∀W,kZ Wm W->XH prog 146 #[v,nv x] W (rZ W λe w'=>GRq (QH r k R S) w' e m (lT N xi x m G) (lT N x xi m H) U))):=by
    rw[<-hn.out];refine⟨λW K=>?_,λW K=>?_,λW K=>?_⟩
    ·refine(Lz HF.2.1 m (by have:=sG.2.2.2.2.2.1;omega) _ x xi kw kl (λj _=>(L.a j).isLt) _ W (PW W K).la).mono ?_;rintro e w' ⟨uu,rfl,h1,h2⟩;exact⟨_,rfl,h1,h2.mono λg M=>(PW W K).qn g M⟩
    ·refine(Lz HF.2.1 m (by have:=sG.2.2.2.2.2.1;omega) _ xi x kl kw (λj _=>(L.b j).isLt) _ W (PW W K).lb).mono ?_;rintro e w' ⟨uu,rfl,h1,h2⟩;exact⟨_,rfl,h1,h2.mono λg M=>(PW W K).qn g M⟩
    ·have:=GK HF.2.1 m c sG.2.2.1 G H U e7 x kw v W (PW W K).qn (PW W K).gr;rw[f7]at this;exact this
   obtain⟨ev,es,kc,ei,bz⟩:=Km.1.r1;have k5:Hid (v=.agg ev/\Row Wm (k+1) ev.toList/\(prog.info? 150).map (·.size)=some ev.toList.length/\ev.size=3):=⟨es,bz,by rw[XP,kc];exact iGr,kc⟩
   clear es kc ei bz kw kl f7 e7;refine(gwL [pE (.slice (some ⟨ga,oa,none⟩) n ca),pE (nv x),pE (nv xi),RG.pS (QH r k R S) m (oI N x xi m (λj=>(L.a j).val)),pE (.slice (some ⟨Z,ob,none⟩) n E),pE (nv xi),pE (nv x),RG.pS (QH r k R S) m (oI N xi x m (λj=>(L.b j).val)),pE (.agg ev.toList.toArray),pE (nv x),pR (QH r k R S) m (lT N xi x m G) (lT N x xi m H) U] (λW=>kZ Wm W) (λW W' K h=>h.trans (K.mono h.size))).tail2 11 kR kR kR ⟨
    gO 2 (.slice (some ⟨ga,oa,none⟩) n ca),
    gLo 15 (λW T=>RG.range_below Km.2.1.2.1 T Km.2.1.1) rSc nSc,
    gLo 16 (λW T=>RG.range_below Km.2.2.2.1 T Km.2.2.1) rSc nSc,
    nG 0 66 1 67 2 68 145 (λx y z=>#[x,y,z]) (λa1 a2 a3 W h1 h2 h3 T=>by
     obtain rfl:a1=(.slice (some ⟨ga,oa,none⟩) n ca):=h1;obtain rfl:a2=nv x:=h2;obtain rfl:a3=nv xi:=h3;refine(cF.1 W T).mono ?_;rintro e W' ⟨uu,rfl,K,hs⟩;exact⟨_,rfl,K,hs⟩),
    gO 3 (.slice (some ⟨Z,ob,none⟩) n E),
    gLo 16 (λW T=>RG.range_below Km.2.2.2.1 T Km.2.2.1) rSc nSc,
    gLo 15 (λW T=>RG.range_below Km.2.1.2.1 T Km.2.1.1) rSc nSc,
    nG 4 70 5 71 6 72 145 (λx y z=>#[x,y,z]) (λa1 a2 a3 W h1 h2 h3 T=>by
     obtain rfl:a1=(.slice (some ⟨Z,ob,none⟩) n E):=h1;obtain rfl:a2=nv xi:=h2;obtain rfl:a3=nv x:=h3;refine(cF.2.1 W T).mono ?_;rintro e W' ⟨uu,rfl,K,hs⟩;exact⟨_,rfl,K,hs⟩),
    iN 150 5 (k+1) 0 ev.toList uGr k5.2.2.1 kR (λW T=>RG.range_below k5.2.1.2.1 T k5.2.1.1) (λ_=>rfl),
    gLo 15 (λW T=>RG.range_below Km.2.1.2.1 T Km.2.1.1) rSc nSc,
    eF 8 74 9 75 146 (λx y=>#[x,y]) (λa1 a2 W h1 h2 T=>by
     obtain rfl:a1=v:=(show a1=.agg ev.toList.toArray from h1).trans k5.1.symm;obtain rfl:a2=nv x:=h2;refine(cF.2.2 W T).mono ?_;rintro e W' ⟨uu,rfl,K,hs⟩;exact⟨_,rfl,K,hs⟩),yEU⟩ (XM _ _).drew ?_
   intro V Wn hR T;have ct:SLq (QH r k R S) Wn (V 3) m (oI N x xi m (λj=>(L.a j).val)):=hR 3 dC;have cg:SLq (QH r k R S) Wn (V 7) m (oI N xi x m (λj=>(L.b j).val)):=hR 7 dC;have hw:GRq (QH r k R S) Wn (V 10) m (lT N xi x m G) (lT N x xi m H) U:=hR 10 dC;obtain⟨ef,d7,k6,c6⟩:=hw.ar;rw[d7]at hw;dsimp only[bY,YH,ZQ,ZR];simp only[XK,Xt,Xv,Xw];rw[d7];generalize V 3=na at ct⊢;generalize V 7=nb at cg⊢;have Pn:=(PW Wn T).next ct cg hw;obtain⟨Wo,fp⟩:∃W,Hid (Wn.setCells (k+1) 0 ef.toList=W):=⟨_,rfl⟩
   rw[fp.out]at Pn;have df:Hid (Wn.there (k+1) 0 ef.size/\(prog.info? 150).map (·.size)=some ef.size/\ef.all (·.oneCell')=true):=by
    refine⟨?_,by rw[k6];exact iGr,c6⟩;rw[k6];have:=(k5.2.1.below T).2.2;rw[XP,k5.2.2.2]at this;exact this
   have bu:(aD C f).rI (chF N) ivF u m L=⟨sx,Md.fS cx (ivF cx) m L.a,Md.fS (ivF cx) cx m L.b,(aD C f).fP (ivF cx) cx m L.g,(aD C f).fP cx (ivF cx) m L.h⟩:=by
    unfold Md.rI;rw[e6.1]
   have eu:Hid (∃J F v G H,Gd N (2^(t-(i+1))) (2^(i+1)) G ((aD C f).pst (chF N) ivF u t q (i+1)).g/\Gd N (2^(t-(i+1))) (2^(i+1)) H ((aD C f).pst (chF N) ivF u t q (i+1)).h/\Ph w Wo r k (i+1) (i+1) (2^(t-(i+1))) J F J F v na nb Lb Rb ((aD C f).pst (chF N) ivF u t q (i+1)).s (λj=>(((aD C f).pst (chF N) ivF u t q (i+1)).a j).val) (λj=>(((aD C f).pst (chF N) ivF u t q (i+1)).b j).val) G H U):=by
    show ∃J F v G H,_;rw[HS.1,bu,HE.1,HE.2];have ea:oI N x xi m (λj=>(L.a j).val)=λj=>(Md.fS cx (ivF cx) m L.a j).val:=by
     rw[<-hp.out,<-h6.out];funext j;exact C7 cx (ivF cx) m L.a j
    have eb:oI N xi x m (λj=>(L.b j).val)=λj=>(Md.fS (ivF cx) cx m L.b j).val:=by
     rw[<-hp.out,<-h6.out];funext j;exact C7 (ivF cx) cx m L.b j
    rw[ea,eb]at Pn;have g1:=sG.1.fold C f (ivF cx) cx;have g2:=sG.2.1.fold C f cx (ivF cx);rw[hp.out,h6.out]at g1 g2;exact⟨_,_,_,_,_,g1,g2,Pn⟩
   obtain⟨vf,ew⟩:∃v,Hid (X6 ef=v):=⟨_,rfl⟩
   rw[ew.out];clear hR T ct cg hw d7 k6 c6 Pn bu cF PW Km;generalize V 0=q0;generalize V 1=q1;generalize V 2=q2;generalize V 4=q4;generalize V 5=q5;generalize V 6=q6;generalize V 8=q8;generalize V 9=q9;go_wp2_with (first|(refine X8 rfl 150 (.tmp 5) _ rfl (k+1) 0 ef ?_ ?_ ?_ ?_ ?_ ?_;rfl;exact ew.symm;exact df.1;exact df.2.1;exact df.2.2;rw[fp.out])|fail)
   go_roundg (gk-1)
   case measure=>have:=HI.out;omega
   case rel=>exact⟨i+1,by have:=HI.out;omega,eu⟩
  ·have g9:i=t:=oM;subst g9;obtain⟨J,F,v,G,H,-,-,h0⟩:=KM.out;clear KM;rw[Nat.sub_self,Nat.pow_zero]at h0;obtain⟨ga,oa,ca,rfl,-,qa,e5,X⟩:=id h0.la;obtain⟨Z,ob,E,rfl,-,qb,fm,V⟩:=id h0.lb;have X:=X 0 dC;have V:=V 0 dC;obtain⟨a0,de⟩:∃a,Hid ((((aD C f).pst (chF N) ivF u i q i).a 0).val=a):=⟨_,rfl⟩
   obtain⟨b0,d8⟩:∃a,Hid ((((aD C f).pst (chF N) ivF u i q i).b 0).val=a):=⟨_,rfl⟩
   have X:wr.rangeAt ga (oa+4*0) (wn a0):=by rw[<-de.out];exact X
   have V:wr.rangeAt Z (ob+4*0) (wn b0):=by rw[<-d8.out];exact V
   have du:Hid (a0<N/\b0<N):=⟨by rw[<-de.out];exact Fin.isLt _,by rw[<-d8.out];exact Fin.isLt _⟩
   have KP:=Hid.mk' h0;have KR:Hid (wr.rangeAt ga (oa+4*0) (wn a0)/\wr.rangeAt Z (ob+4*0) (wn b0)/\ga<wr.heap.size/\Z<wr.heap.size):=⟨X,V,e5,fm⟩
   have hz:k+4<=wr.heap.size:=h0.r3.1;have da:=Hid.mk' hz;obtain⟨dS,kp,kj⟩:=XA.1 rSc;have na:ga≠k+3:=by have:=qa.2.1;omega
   have nb:Z≠k+3:=by have:=qb.2.1;omega
   have L:∀W,kZ wr W->W.rangeAt ga (oa+4*0) (wn a0)/\W.rangeAt Z (ob+4*0) (wn b0):=λW K=>⟨RG.range_below X K e5,RG.range_below V K fm⟩
   have cp:∀(o:Nat) (x:Xu) (W:Xs),W.rangeAt ga (oa+4*0) (wn a0)/\W.rangeAt Z (ob+4*0) (wn b0)->(W.setCells (k+3) o [x]).rangeAt ga (oa+4*0) (wn a0)/\(W.setCells (k+3) o [x]).rangeAt Z (ob+4*0) (wn b0):=λo x W h=>⟨Yk h.1 _ _ _ (X9 na),Yk h.2 _ _ _ (X9 nb)⟩
   have bd:kZ wr wr.drew:=(XM _ _).drew;clear h0 hz hi;go_wp2_with fail
   refine anyS.begin (λ_ W=>W.rangeAt ga (oa+4*0) (wn a0)/\W.rangeAt Z (ob+4*0) (wn b0)) kR ?_;have bS:Bef (λ_ W=>yBu W ga (oa+4*0) (wn a0)/\yBu W Z (ob+4*0) (wn b0)) 11 wr.drew:=⟨#[],by simp,L _ bd⟩
   refine anyS.val (i:=0) (d:=some 77) (x:=.slice (some ⟨ga,oa,none⟩) 1 ca) rfl 11 (λ_ _ h=>h) bS (L _ bd) ?_;simp only[XK,Xt,Xv,Xw];refine anyS.val (i:=1) (d:=some 78) (x:=.pointer (some ⟨ga,oa+4*0,none⟩)) rfl 11 (λ_ _ h=>h) bS (L _ bd) ?_ (hv:=hvI (mC ga oa 1 ca 0 dC) kR);simp only[XK,Xt,Xv,Xw];refine anyS.row (i:=2) (d:=some 79) (cs:=wn a0) rfl 11 (λ_ _ h=>h) 44 78 ga (oa+4*0) dS rfl kp kj nSc (λW ⟨l,e,h⟩=>h.1) bS (L _ bd) ?_;simp only[XK,Xt,Xv,Xw];refine anyS.val (i:=4) (d:=some 81) (x:=(.slice (some ⟨Z,ob,none⟩) 1 E)) rfl 11 (λ_ _ h=>h) bS (L _ bd) ?_;simp only[XK,Xt,Xv,Xw];refine anyS.val (i:=5) (d:=some 82) (x:=.pointer (some ⟨Z,ob+4*0,none⟩)) rfl 11 (λ_ _ h=>h) bS (L _ bd) ?_ (hv:=hvI (mC Z ob 1 E 0 dC) kR);simp only[XK,Xt,Xv,Xw];refine anyS.row (i:=6) (d:=some 83) (cs:=wn b0) rfl 11 (λ_ _ h=>h) 44 82 Z (ob+4*0) dS rfl kp kj nSc (λW ⟨l,e,h⟩=>h.2) bS (L _ bd) ?_;simp only[XK,Xt,Xv,Xw];clear bS;refine anyS.cal (i:=3) (d:=some 80) rfl (eI HF.2.1 du.1 wr.drew) (λxA W1 Y=>?_);obtain⟨D,rfl⟩:=Y.2.2;have bA:kZ wr W1:=bd.trans Y.1;refine⟨L _ bA,?_⟩;simp only[XK,Xt,Xv,Xw];refine anyS.val (i:=8) (d:=some 85) (x:=.pointer (some ⟨k+3,2,none⟩)) rfl 11 (λ_ _ h=>h) ⟨#[],by simp,L _ bA⟩ (L _ bA) ?_;simp only[XK,Xt,Xv,Xw];have P1:=KP.grow bA;have lA:wr.heap.size<=D/\D<W1.heap.size:=by
    obtain⟨k1,c1,e1,-,-,q1,l1,-⟩:=Y.2.1;obtain rfl:D=k1:=XS.inj (congrArg Za e1);exact⟨q1,l1⟩
   have er:ElQ (k+4<=·) 32 W1 (r32 D) (bx a0):=Y.2.1.mono2 λg _ M=>XB da.out M
   have R:∀(W:Xs) (o:Nat) (x:Xu),Kq (k+4<=·) W (W.setCells (k+3) o [x]):=λW o x=>Kq.set λg M e=>oM
   have T:∀g,J.ownBlock=some g->g<wr.heap.size/\g≠k+3:=λg M=>⟨(KP.tL.lt M).2,by have:=(KP.tL.lt M).1;omega⟩
   have S:∀g,F.ownBlock=some g->g<wr.heap.size/\g≠k+3:=λg M=>⟨(KP.tR.lt M).2,by have:=(KP.tR.lt M).1;omega⟩
   have key:∀(W:Xs),(∀g,g<wr.heap.size->g≠k+3->W.heap[g]? = wr.heap[g]?)->wr.heap.size<=W.heap.size->∀A,D<A->A<W.heap.size->DjF (k+4) W i J F (r32 D) (r32 A):=λW hk hs A h1 h2=>DjF.of KP.dj hs (λg M=>hk g (T g M).1 (T g M).2) (λg M=>hk g (S g M).1 (S g M).2) da.out lA.1 h1 h2
   have fr:∀ {W:Xs},R3 W (k+3) J F->∃z,Row (W.setCells (k+3) 2 [r32 D]) (k+3) [J,F,r32 D,z]/\W.there (k+3) 2 1:=λh=>by
    obtain⟨-,rs,hl,hr⟩:=h;match rs,hl,hr with
    | [x,z],_,hr =>
     refine⟨z,lF (x:=r32 D) (o:=2) hr (yA2 rfl),λj hj=>?_⟩;have kk:j=0:=oM;subst kk;exact hr.2.2 2 (yA2 rfl)
   obtain⟨PH,p1,pF⟩:∃PH:Xs->Prop,(∀W W',kZ W1 W->W'=W.setCells (k+3) 2 [r32 D]->PH W'/\R3 W (k+3) J F)/\(∀W A,PH W->ElQ (k+4<=·) 32 (W.setCells (k+3) 3 [r32 A]) (r32 D) (bx a0)->ElQ (k+4<=·) 32 (W.setCells (k+3) 3 [r32 A]) (r32 A) (bx b0)->DjF (k+4) (W.setCells (k+3) 3 [r32 A]) i J F (r32 D) (r32 A)->Row (W.setCells (k+3) 3 [r32 A]) (k+2) [.slice none 0 0,.slice none 0 0,.slice none 0 0,.slice none 0 0]/\Row ((W.setCells (k+3) 3 [r32 A]).setCells (k+2) 0 [J,F,r32 D,r32 A]) (k+2) [J,F,r32 D,r32 A]/\PhR w r i Lb Rb ((aD C f).pst (chF N) ivF u i q i).s (bx a0) (bx b0) (.agg #[J,F,r32 D,r32 A]) ((W.setCells (k+3) 3 [r32 A]).setCells (k+2) 0 [J,F,r32 D,r32 A])):=⟨λW=>Ph w W r k i i 1 J F J F v (.slice (some ⟨ga,oa,none⟩) 1 ca) (.slice (some ⟨Z,ob,none⟩) 1 E) Lb Rb ((aD C f).pst (chF N) ivF u i q i).s (λj=>(((aD C f).pst (chF N) ivF u i q i).a j).val) (λj=>(((aD C f).pst (chF N) ivF u i q i).b j).val) G H U,λW W' K e=>by rw[e];exact⟨(P1.grow K).putA (o:=0) dC,(P1.grow K).r3⟩,λW A h e1 e2 e3=>(h.putA (o:=1) dC).fin e1 e2 e3⟩
   have lB:∀ {W W':Xs}{A:Nat}{b:Bs},ElQ (W.heap.size<=·) 32 W' (r32 A) b->W.heap.size<=A/\A<W'.heap.size:=λh=>by
    obtain⟨k1,c1,e1,-,-,q1,l1,-⟩:=h;obtain rfl:=XS.inj (congrArg Za e1);exact⟨q1,l1⟩
   have ky:k+4<=W1.heap.size:=XB da.out bA.size;refine anyS.cal (i:=7) (d:=some 84) rfl (eI HF.2.1 du.2 W1) ?_;rintro v W' ⟨b8,cu,A,rfl⟩;have bw:=bA.trans (b8.mono bA.size);obtain⟨ph,c7⟩:=p1 W' _ b8 rfl;obtain⟨z,hz,ft⟩:=fr c7;have l2:=lB cu;have e1:=(er.keep (Kq.of_below b8)).keep (R W' 2 (r32 D));have e2:=(cu.mono2 (Q':=(k+4<=·)) λg _ M=>XB ky M).keep (R W' 2 (r32 D));have e3:=key (W'.setCells (k+3) 2 [r32 D]) (λg h1 h2=>(aE (k+3) _ _ _ g h2).trans (bw.block g h1)) (by rw[setCells_size];exact bw.size) A (Xz lA.2 l2.1) (by rw[setCells_size];exact l2.2);have rr:=cp 2 (r32 D) _ (L _ bw);refine⟨L _ bw,?_⟩;simp only[XK,Xt,Xv,Xw];refine anyS.sto (i:=9) (d:=none) rfl 23 (.tmp 85) (.tmp 80) rfl (k+3) 2 (r32 D) rfl rfl ft iB1 rr ?_;simp only[XK,Xt,Xv,Xw];generalize W'.setCells (k+3) 2 [r32 D]=W at ph hz e1 e2 e3 rr⊢;have KF:=pF W A ph (e1.keep (R _ _ _)) (e2.keep (R _ _ _)) (e3.keep (Xx _) (by rw[setCells_size];exact Xx _) (λg M=>aE (k+3) _ _ _ g (T g M).2) (λg M=>aE (k+3) _ _ _ g (S g M).2));have cv:Row (W.setCells (k+3) 3 [r32 A]) (k+3) [J,F,r32 D,r32 A]:=lF (x:=r32 A) (o:=3) hz (yA2 rfl);have et:W.there (k+3) 3 1:=λj hj=>by
    have kk:j=0:=oM;subst kk;exact hz.2.2 3 (yA2 rfl)
   refine anyS.nxt (i:=10) (d:=some 86) (x:=.pointer (some ⟨k+3,3,none⟩)) rfl rr ?_;simp only[XK,Xt,Xv,Xw];refine anyS.sto (i:=11) (d:=none) rfl 23 (.tmp 86) (.tmp 84) rfl (k+3) 3 (r32 A) rfl rfl et iB1 (cp _ _ _ rr) ?_;simp only[XK,Xt,Xv,Xw];refine anyS.fin kR ?_ _;intro WZ ff;rw[<-ff]at KF cv;obtain⟨Wd,fs⟩:=hE (WZ.setCells (k+2) 0 [J,F,r32 D,r32 A]);rw[fs.out]at KF;have ON:Hid ((#[J,F,r32 D,r32 A]:Array Xu).all (·.oneCell')=true):=by show _=_;simp[KP.tL.one.2,KP.tR.one.2,e1.one.2,e2.one.2]
   have KF:=mk2 KF cv;obtain⟨dI,bn,c8⟩:=XA.1 Nc;have fg:=mk2 bn c8;obtain⟨vO,ej⟩:=hE (X6 #[J,F,r32 D,r32 A]);clear L cp bd KP P1 ff rr ph b8 cu bw cv ft l2 c7 e1 e2 e3 hz et pF p1 key fr er R T S Y ky lA bn c8 kp kj na nb qa qb;go_wp2_with (first|(refine Yv rfl 64 (.tmp 9) rfl (k+3) 0 ?_ [J,F,r32 D,r32 A] dI ?_ ?_ ?_ ?_ ?_;rfl;exact KF.2.2.1;exact fg.1;exact fg.2;exact KU;rw[show X6 [J,F,r32 D,r32 A].toArray=vO from ej.out])|(refine X8 rfl 64 (.tmp 8) _ rfl (k+2) 0 #[J,F,r32 D,r32 A] ?_ ?_ ?_ ?_ ?_ ?_;rfl;exact ej.symm;exact KF.1.1.2.2;exact KU;exact ON.out;rw[show(#[J,F,r32 D,r32 A]:Array Xu).toList=[J,F,r32 D,r32 A] from rfl,fs.out])|fail)
   refine XE (aF 8 64 rfl KF.1.2.1 rfl Nc KU) rfl ?_;refine⟨_,rfl,?_⟩;have:=KF.1.2.2;rw[<-de.out,<-d8.out]at this;exact this
end
section
open SPA
variable {P:Nat}[NeZero P]{N:Nat}
def hvA(n:Nat):Xu:=if n=1 then .tuple #[iZ 0,.bool true] else if n=2 then .tuple #[iZ 1,.bool true] else if n=4 then .tuple #[iZ 2,.bool true] else if n=8 then .tuple #[iZ 3,.bool true] else if n=16 then .tuple #[iZ 4,.bool true] else if n=32 then .tuple #[iZ 5,.bool true] else if n=64 then .tuple #[iZ 6,.bool true] else .tuple #[iZ 0,.bool false]
theorem So(n:Nat)(d:n=1\/n=2\/n=4\/n=8\/n=16\/n=32\/n=64\/n=128)(w:Xs):XH prog 73 #[iZ n] w (rZ w λe w'=>e=hvA n):=by
 obtain⟨b,k⟩:∃b,b=n:=⟨_,rfl⟩
 rcases d with rfl|rfl|rfl|rfl|rfl|rfl|rfl|rfl
 all_goals
  go_enter func73,ntmps73;go_wp2;go_loopg [5] 7 (λm s5 W=>W=w/\((m=7/\s5=iZ 0)\/(m=6/\s5=iZ 1/\1<b)\/(m=5/\s5=iZ 2/\2<b)\/(m=4/\s5=iZ 3/\4<b)\/(m=3/\s5=iZ 4/\8<b)\/(m=2/\s5=iZ 5/\16<b)\/(m=1/\s5=iZ 6/\32<b)\/(m=0/\s5=iZ 7/\64<b)))
  case atStart=>exact⟨rfl,X9 ⟨rfl,rfl⟩⟩
  case round =>
   obtain⟨rfl,h⟩:=hrel;rcases h with⟨rfl,rfl⟩|⟨rfl,rfl,c⟩|⟨rfl,rfl,c⟩|⟨rfl,rfl,c⟩|⟨rfl,rfl,c⟩|⟨rfl,rfl,c⟩|⟨rfl,rfl,c⟩|⟨rfl,rfl,c⟩
   all_goals
    first
     | (exfalso;omega)
     | skip
   all_goals
    go_wp2;first
     | (go_ret2;exact⟨_,rfl,XM _ _,rfl⟩)
     | (go_roundg 6;(case measure=>omega);(case rel=>exact⟨rfl,by simp[k]⟩))
     | (go_roundg 5;(case measure=>omega);(case rel=>exact⟨rfl,by simp[k]⟩))
     | (go_roundg 4;(case measure=>omega);(case rel=>exact⟨rfl,by simp[k]⟩))
     | (go_roundg 3;(case measure=>omega);(case rel=>exact⟨rfl,by simp[k]⟩))
     | (go_roundg 2;(case measure=>omega);(case rel=>exact⟨rfl,by simp[k]⟩))
     | (go_roundg 1;(case measure=>omega);(case rel=>exact⟨rfl,by simp[k]⟩))
     | (go_roundg 0;(case measure=>omega);(case rel=>exact⟨rfl,by simp[k]⟩))
end
section
open SPA
variable {P:Nat}[NeZero P]{N:Nat}[NeZero N]
noncomputable def gPt (C:Fld P) (lb:ByteArray) (i:Nat):OnP P:=⟨.some (hpt P lb (gB i).toList),BD C lb _⟩
noncomputable def lPt (C:Fld P) (lb:ByteArray) (x:List UInt8):OnP P:=⟨.some (hpt P lb x),BD C lb x⟩
noncomputable def uPt (C:Fld P):OnP P:=lPt C ⟨#[105,110,110,101,114]⟩ []
omit [NeZero N] in
theorem Pv(C:Fld P)(k:1<N)(lb:ByteArray)(i:Nat):Tl N [(1,hpN P lb i)] (gPt C lb i):=Tl.one C k (gPt C lb i)
omit [NeZero N] in
theorem TM(C:Fld P)(k:1<N)(lb:ByteArray)(x:List UInt8):Tl N [(1,wr (.some (hpt P lb x):EC.Pt P))] (lPt C lb x):=Tl.one C k (lPt C lb x)
omit [NeZero N] in
theorem wQ(C:Fld P)(k:1<N)(n:Nat):Gd N n 1 (gGT P) (gPt C ⟨#[108,101,102,116]⟩):=⟨λi _=>Pv C k _ i,λ_ _=>rfl⟩
omit [NeZero N] in
theorem oH(C:Fld P)(k:1<N)(n:Nat):Gd N n 1 (hGT P) (gPt C ⟨#[114,105,103,104,116]⟩):=⟨λi _=>Pv C k _ i,λ_ _=>rfl⟩
omit [NeZero N] in
theorem nM(C:Fld P)(k:1<N):Tl N (uGT P) (uPt C):=TM C k _ _
omit [NeZero N] in
theorem Mw(O:Ord N)(n cap:Nat)(l:n<=512)(q:Option YW)(L:Nat->Bs)(a:Nat->Nat)(w:Xs)(p:Args w q n L)(f:∀j,j<n->rq N (L j)=some (a j)):XH prog 161 #[(.func (.func 11) #[] #[]),.slice q n cap] w (rZ w λe w'=>∃k,e=.tuple #[sZ k n n,.bool true]/\SLq (w.heap.size<=·) w' (sZ k n n) n a):=by
 refine(Pi O n cap l q L w p).mono ?_;rintro e w' ⟨v,rfl,h⟩;rcases h with⟨⟨j,o,i⟩,-⟩|⟨-,k,r,b,hR,rfl⟩
 ·rw[f j o]at i;cases i
 ·refine⟨_,rfl,b.bel,k,rfl,k,0,n,rfl,Xx _,b.le,b.lt,λj c t u g=>?_⟩;have m:=(XG.1 g).1;have d:=hR.row j t c m;rw[f j c]at d;have:=b.range (4*j+t) u (by rw[d];exact g);rw[show 0+(4*j+t)=0+4*j+t by omega]at this;exact this
theorem Si(t:Nat)(k:t<=6):hvA (2^t)=.tuple #[iZ t,.bool true]:=by
 match t,k with
 | 0,_=>rfl
 | 1,_=>rfl
 | 2,_=>rfl
 | 3,_=>rfl
 | 4,_=>rfl
 | 5,_=>rfl
 | 6,_=>rfl
 | n+7,h=>omega
theorem Rl(t:Nat)(k:t<=6):2^t=1\/2^t=2\/2^t=4\/2^t=8\/2^t=16\/2^t=32\/2^t=64\/2^t=128:=by
 match t,k with
 | 0,_=>decide
 | 1,_=>decide
 | 2,_=>decide
 | 3,_=>decide
 | 4,_=>decide
 | 5,_=>decide
 | 6,_=>decide
 | n+7,h=>omega
theorem anyS.sta{P:YG}{c:Array Yo}{Q:yAL->Act->Xs->Prop}{S:Array Bool->Xs->Prop}{i e:Nat}{o:Yo}{k:Array Bool}{a:Act}{w:Xs}{d:Option Zs}(ho:c[i]? = some o)(g:Yd)(x y:yAf)(f:o.op=.store g x y)(b off:Nat)(us:Array Xu)(r:us.all (·.oneCell')=true)(p:w.there b off us.size)(m:(P.info? g).map (·.size)=some us.size)
 (q:S (k.setIfInBounds i true) (w.setCells b off us.toList)) (h:anyS P c Q S e (k.setIfInBounds i true) (a.put d Zp) (w.setCells b off us.toList)) (hx:a.eval x=oZ b off:=by kernel_rfl) (n:a.eval y=.agg us:=by kernel_rfl)
 (j:Yf .any c k=[i]:=by kernel_rfl) (l:o.guard=none:=by rfl) (hd:o.dst=d:=by kernel_rfl):anyS P c Q S (e+1) k a w:=by
 subst hd;exact anyS.step ho j λK s=>by
  rw[yES (bK l _)];have j:=yCb (P:=P) w b off g us p m r;unfold YV Yb;simp only[f,hx,n,yA6,yAC,XT,Zj,Yu,j];exact s.out _ _ q h
theorem Cp{P:YG}{e:Func}{tmps:Array Xu}{W:Xs}{k:Nat}{vs:List Xu}{x y:Xu}(s t u:Zs)(T:Yd)(g:e.results=#[.tmp s,.cell t T,.tmp u])(h:Row W k vs)(l:tmps[s]? = some x)(m:tmps[t]? = some (jZ k))(c:tmps[u]? = some y)
 (b:(P.underlying T).map (·.isRow)=some true) (f:(P.info? T).map (·.size)=some vs.length):(results e tmps).run P W=.ok (.tuple #[x,.agg vs.toArray,y]) W:=by
 obtain⟨d,b,hd⟩:=XA.1 b;have n:=run_loadVar_mid (P:=P) W k 0 T vs d h.2.1 b hd f;have o:tmps.getD t Zp=jZ k:=by rw[XI,m];rfl
 have i:tmps.getD s Zp=x:=by rw[XI,l];rfl
 have j:tmps.getD u Zp=y:=by rw[XI,c];rfl
 unfold results;rw[g];simp only[Array.mapM_eq_mapM_toList,List.mapM_cons,List.mapM_nil,o,i,j,asAddr];simp[XT,n]
theorem ElQ.off{Q:Nat->Prop}{m k:Nat}{W:Xs}{x:Xu}{b:Bs}{vs:List Xu}(h:ElQ Q m W x b)(p:0<m)(i:Row W k (.slice none 0 0 :: vs)):ElQ (·≠k) m W x b:=by
 obtain⟨g,c,l,n,j,q,o,e⟩:=h;refine⟨g,c,l,n,j,?_,o,e⟩;rintro rfl;have d:=(e 0 oM).1;have f:=i.2.1 0 _ rfl;rw[show(0+0:Nat)=0 from rfl]at d f;rw[f]at d;cases d
theorem yC{w W:Xs}{r o m B:Nat}(h:SP.Only r o m w W)(b:B<=w.heap.size)(c:B<=r):Below B w W:=⟨h.os,h.tape,h.output,h.size,λg k=>h.block g oM oM⟩
end
section
structure Iv where
 p:Xs->Prop
 gr:∀W W',kZ W W'->p W->p W'
 b:Bool
abbrev Iv.bel(k:Xs):Iv:=⟨λW=>kZ k W,λ_ _ b h=>h.trans (b.mono h.size),true⟩
abbrev Iv.only{r:Nat}{k:Xs}(b:r<k.heap.size):Iv:=⟨λW=>SP.Only r 0 32 k W,λ_ _ c h=>h.trans (SP.Only.of_below c rfl (Xz b h.size)),false⟩
section
variable {P:YG}{ops:Array Yo}{Q:yAL->Act->Xs->Prop}{p r:Nat}{J:Iv}{W:Xs}
def Sa(p r:Nat)(J:Iv)(l:Array Bool)(W:Xs):Prop:=(J.b=true/\l.getD p false=true/\l.getD r false=true)\/J.p W
theorem Sa.back{i:Nat}(h:p≠i)(b:r≠i)(l:Array Bool)(W:Xs)(k:Sa p r J (l.setIfInBounds i true) W):Sa p r J l W:=by
 rcases k with k|k
 ·rw[yAt false (yBb h),yAt false (yBb b)]at k;exact X9 k
 ·exact X0 k
def qw(k:Array Yo)(b:Bool)(p r i:Nat):Nat:=bif b then bif waits k p i then p else r else((Yt k.size).find? λj=>waits k j i).getD 0
theorem Sa.bel{i:Nat}(h:Bef (Sa p r J) (qw ops J.b p r i) W):J.p W:=by
 obtain⟨l,k,⟨d,b⟩|b⟩:=h
 ·exfalso;unfold qw at k;rw[d]at k;cases c:waits ops p i with
  | true=>rw[c]at k;exact yA7 (k.symm.trans b.1)
  | false=>rw[c]at k;exact yA7 (k.symm.trans b.2)
 ·exact b
theorem Sa.bef{q:Nat}(h:J.p W):Bef (Sa p r J) q W:=⟨#[],by simp,X0 h⟩
def AW(P:YG)(c:Array Yo)(Q:yAL->Act->Xs->Prop)(p r:Nat)(J:Iv)(b:Nat)(k:Array Bool)(a:Act)(w:Xs):Prop:=J.p w->anyS P c Q (Sa p r J) b k a w
theorem AW.beg{id:Nat}{a:Act}{w:Xs}(p r:Nat)(J:Iv)(b:J.p w.drew)(h:AW P ops Q p r J ops.size (XL ops.size false) a w.drew)(k:P.follows .mixedOrders=true:=by kernel_rfl):(Zd id ops true).wp P Q a w:=anyS.begin (Sa p r J) k (h b)
theorem AW.begin{id:Nat}{a:Act}{w:Xs}(p r:Nat)(h:AW P ops Q p r (Iv.bel w) ops.size (XL ops.size false) a w.drew)(k:P.follows .mixedOrders=true:=by kernel_rfl):(Zd id ops true).wp P Q a w:=AW.beg p r (Iv.bel w) (XM _ w).drew h k
def aw1(b:Array Yo)(p r q i:Nat)(k:Array Bool):Bool:=waits b q i && yAo b && !(k.getD q false || q == i) && yBn .any b k i && (Yf .any b k).contains i && !(p == i) && !(r == i)
def fw(k:Array Yo)(i:Nat):Nat:=((Yt k.size).find? λj=>waits k j i).getD 0
variable {i fuel:Nat}{o:Yo}{listed:Array Bool}{a a':Act}{w w':Xs}{d:Option Zs}{x v:Xu}{t:Zs}{T:Yd}{b off:Nat}{cs:List Xu}
theorem AW.take(i q:Nat)(ho:ops[i]? = some o)(hd:o.dst=d)(j:YieldsIf P ops (Bef (Sa p r J) q) o x a)(m:a.put d x=a')(b:aw1 ops p r q i listed=true)(e:∀c a w,Q (.panic c) (a.put o.dst x) w->Q (.panic c) a w)(h:AW P ops Q p r J fuel (listed.setIfInBounds i true) a' w):AW P ops Q p r J (fuel+1) listed a w:=λk=>by
 subst m hd;simp only[aw1,XO,Bool.not_eq_true']at b;obtain⟨⟨⟨⟨⟨⟨s,t⟩,l⟩,n⟩,u⟩,g⟩,f⟩:=b;exact anyS.take (p:=q) ho (Sa.back (by simpa using g) (by simpa using f)) j (Sa.bef k) (X0 k) (h k) s t l n u e
theorem AW.va(i:Nat)(x:Xu)(h:AW P ops Q p r J fuel (listed.setIfInBounds i true) a' w)(ho:ops[i]? = some o:=by(simp only[Ye,Ya,Yc])<;>rfl)(hd:o.dst=d:=by rfl)(e:o.guard=none:=by rfl)(hv:∀w,(Yb a.eval o).run P w=.ok (.value x) w:=by intro _;kernel_rfl)
 (f:a.put d x=a':=by(simp only[XK,Xt,Xv,Xw])<;>rfl) (k:aw1 ops p r (fw ops i) i listed=true:=by kernel_rfl) (b:∀c a w,Q (.panic c) (a.put o.dst x) w->Q (.panic c) a w:=by exact λ_ _ _ h=>h):AW P ops Q p r J (fuel+1) listed a w:=
 AW.take i (fw ops i) ho hd (X9 ⟨bK e _,λw _=>hv w⟩) f k b h
theorem AW.iv(i:Nat){I:Sem Xu}(f:∀w,I.run P w=.ok x w)(h:AW P ops Q p r J fuel (listed.setIfInBounds i true) a' w)(ho:ops[i]? = some o:=by(simp only[Ye,Ya,Yc])<;>rfl)(hd:o.dst=d:=by rfl)(e:o.guard=none:=by rfl)(g:Yb a.eval o=I >>= λv=>pure (ZN v):=by kernel_rfl)
 (j:a.put d x=a':=by(simp only[XK,Xt,Xv,Xw])<;>rfl) (k:aw1 ops p r (fw ops i) i listed=true:=by kernel_rfl) (b:∀c a w,Q (.panic c) (a.put o.dst x) w->Q (.panic c) a w:=by exact λ_ _ _ h=>h):AW P ops Q p r J (fuel+1) listed a w:=
 AW.take i (fw ops i) ho hd (X9 ⟨bK e _,λw _=>by rw[g,XT,f w];rfl⟩) j k b h
theorem SU{b:Array Yd}{s t k:Zs}{f:ZY}{y:Xu}(hf:∀args W,(callFunc f args).run P W=.ok (.enter f args) W)(ho:o.op=.call ⟨.value (.tmp s),#[.tmp t,.tmp k],b⟩)(c:a.eval (.tmp s)=.func (.func f) #[] #[])(hx:a.eval (.tmp t)=x)(d:a.eval (.tmp k)=y):(Yb a.eval o).run P w=.ok (.enter f #[x,y]) w:=by
 unfold Yb;rw[ho];have e:(#[yDK t,yDK k].map a.eval)=#[x,y]:=by simp[hx,d]
 simp only[resolve,c,Deferred.ofValue,XT,Zj,Yu,invoke,e];exact hf _ w
theorem AW.mv(i:Nat)(h:AW P ops Q p r J fuel (listed.setIfInBounds i true) a' w)(ho:ops[i]? = some o:=by(simp only[Ye,Ya,Yc])<;>rfl)(hd:o.dst=d:=by rfl)(f:o.guard=none:=by rfl)(k:o.op=.move (.tmp t):=by rfl)(hx:a.eval (.tmp t)=x:=by(conv=>lhs;whnf)<;>rfl)
 (g:a.put d x=a':=by(simp only[XK,Xt,Xv,Xw])<;>rfl) (b:aw1 ops p r (fw ops i) i listed=true:=by kernel_rfl) (e:∀c a w,Q (.panic c) (a.put o.dst x) w->Q (.panic c) a w:=by exact λ_ _ _ h=>h):AW P ops Q p r J (fuel+1) listed a w:=
 AW.take i (fw ops i) ho hd (X9 ⟨bK f _,λw _=>by unfold Yb;rw[k];dsimp only;rw[hx];rfl⟩) g b e h
theorem AW.ce(i:Nat)(g:(P.underlying T).map (·.isRow)=some false)(m:∀W,J.p W->W.cell? ⟨b,off,none⟩=some x)(h:AW P ops Q p r J fuel (listed.setIfInBounds i true) a' w)(ho:ops[i]? = some o:=by(simp only[Ye,Ya,Yc])<;>rfl)(hd:o.dst=d:=by rfl)(l:o.guard=none:=by rfl)(k:o.op=.load T (.tmp t):=by rfl)(hx:a.eval (.tmp t)=oZ b off:=by rfl)
 (n:a.put d x=a':=by(simp only[XK,Xt,Xv,Xw])<;>rfl) (f:aw1 ops p r (qw ops J.b p r i) i listed=true:=by kernel_rfl) (j:∀c a w,Q (.panic c) (a.put o.dst x) w->Q (.panic c) a w:=by exact λ_ _ _ h=>h):AW P ops Q p r J (fuel+1) listed a w:=
 AW.take i (qw ops J.b p r i) ho hd (X9 ⟨bK l _,λw e=>by
  unfold Yb;rw[k];dsimp only;rw[hx,XT,eN (m w (Sa.bel e)) g];rfl⟩) n f j h
theorem AW.ro(i:Nat)(g:∀W,J.p W->W.rangeAt b off cs)(hv:Hid (.agg cs.toArray=x))(m:(P.underlying T).map (·.isRow)=some true)(j:(P.info? T).map (·.size)=some cs.length)(h:AW P ops Q p r J fuel (listed.setIfInBounds i true) a' w)(ho:ops[i]? = some o:=by(simp only[Ye,Ya,Yc])<;>rfl)(hd:o.dst=d:=by rfl)(f:o.guard=none:=by rfl)(k:o.op=.load T (.tmp t):=by rfl)(hx:a.eval (.tmp t)=oZ b off:=by rfl)
 (l:a.put d x=a':=by(simp only[XK,Xt,Xv,Xw])<;>rfl) (s:aw1 ops p r (qw ops J.b p r i) i listed=true:=by kernel_rfl) (e:∀c a w,Q (.panic c) (a.put o.dst x) w->Q (.panic c) a w:=by exact λ_ _ _ h=>h):AW P ops Q p r J (fuel+1) listed a w:=by
 obtain rfl:=hv.out;obtain⟨q,u,v⟩:=XA.1 m;exact AW.take i (qw ops J.b p r i) ho hd (yieldsIf_load_mid (bK f _) T (.tmp t) k b off hx cs q (λw n=>g w (Sa.bel n)) u v j) l s e h
theorem AW.ca(i:Nat){f:ZY}{args:Array Xu}{R:Xu->Xs->Prop}(j:J.p w->XH P f args w (Ret R))(hR:∀e w',R e w'->kZ w w')(h:∀e w',R e w'->AW P ops Q p r J fuel (listed.setIfInBounds i true) (a.put d e) w')(ho:ops[i]? = some o:=by(simp only[Ye,Ya,Yc])<;>rfl)(hd:o.dst=d:=by rfl)(g:o.guard=none:=by rfl)(hx:(Yb a.eval o).run P w=.ok (.enter f args) w:=by kernel_rfl)(b:Yf .any ops listed=[i]:=by kernel_rfl):AW P ops Q p r J (fuel+1) listed a w:=λc =>
 anyS.cal ho (j c) (λe w' b=>by
  have k:=J.gr w w' (hR e w' b) c;exact⟨X0 k,h e w' b k⟩) b g hx hd
theorem AW.cw(i:Nat){f:ZY}{args:Array Xu}{R:Xu->Xs->Prop}(g:J.p w->XH P f args w (Ret R))(hR:∀e w',J.p w->R e w'->J.p w')(h:∀e w',R e w'->AW P ops Q p r J fuel (listed.setIfInBounds i true) (a.put d e) w')(ho:ops[i]? = some o:=by(simp only[Ye,Ya,Yc])<;>rfl)(hd:o.dst=d:=by rfl)(c:o.guard=none:=by rfl)(hx:(Yb a.eval o).run P w=.ok (.enter f args) w:=by kernel_rfl)(k:Yf .any ops listed=[i]:=by kernel_rfl):AW P ops Q p r J (fuel+1) listed a w:=λb =>
 anyS.cal ho (g b) (λe w' k=>⟨X0 (hR e w' b k),h e w' k (hR e w' b k)⟩) k c hx hd
theorem AW.gi(i:Nat){f:ZY}{args:Array Xu}(c:J.p w->XH P f args w (rZ w λe w'=>e=x))(h:∀w',kZ w w'->AW P ops Q p r J fuel (listed.setIfInBounds i true) a' w')(ho:ops[i]? = some o:=by(simp only[Ye,Ya,Yc])<;>rfl)(hd:o.dst=d:=by rfl)(b:o.guard=none:=by rfl)(hx:(Yb a.eval o).run P w=.ok (.enter f args) w:=by kernel_rfl)
 (j:a.put d x=a':=by(simp only[XK,Xt,Xv,Xw])<;>rfl) (g:Yf .any ops listed=[i]:=by kernel_rfl):AW P ops Q p r J (fuel+1) listed a w:=AW.ca i c (λe w' h=>h.1) (λe w' hR=>by
 obtain⟨k,rfl⟩:=hR;subst j;exact h w' k) ho hd b hx g
theorem AW.ns(i:Nat){I:Sem Xu}(hx:I.run P w=.ok x w')(b:kZ w w')(h:AW P ops Q p r J fuel (listed.setIfInBounds i true) a' w')(ho:ops[i]? = some o:=by(simp only[Ye,Ya,Yc])<;>rfl)(hd:o.dst=d:=by rfl)(c:o.guard=none:=by rfl)(g:Yb a.eval o=I >>= λv=>pure (ZN v):=by kernel_rfl)
 (j:a.put d x=a':=by(simp only[XK,Xt,Xv,Xw])<;>rfl) (e:Yf .any ops listed=[i]:=by kernel_rfl):AW P ops Q p r J (fuel+1) listed a w:=λf=>by
 subst j;have k:=J.gr w w' b f;exact anyS.ins ho hx (X0 k) (h k) e c g hd
theorem AW.nx(i:Nat)(x:Xu)(h:AW P ops Q p r J fuel (listed.setIfInBounds i true) a' w)(ho:ops[i]? = some o:=by(simp only[Ye,Ya,Yc])<;>rfl)(hd:o.dst=d:=by rfl)(b:o.guard=none:=by rfl)(hv:(Yb a.eval o).run P w=.ok (.value x) w:=by kernel_rfl)
 (e:a.put d x=a':=by(simp only[XK,Xt,Xv,Xw])<;>rfl) (c:Yf .any ops listed=[i]:=by kernel_rfl):AW P ops Q p r J (fuel+1) listed a w:=λk=>by
 subst e;exact anyS.nxt ho (X0 k) (h k) hv c b hd
theorem AW.dn(h:J.p w->Q .normal a w)(k:Yf .any ops listed=[]:=by kernel_rfl):AW P ops Q p r J fuel listed a w:=λb=>anyS.done k (h b) _
theorem AW.fi{us:List Xu}{k off:Nat}(hv:Hid (.agg us.toArray=v))(j:us.toArray.all (·.oneCell')=true)(f:(P.info? T).map (·.size)=some us.length)(h:J.p w->w.there k off us.length/\Q .normal a' (w.setCells k off us))(ho:ops[p]? = some o:=by(simp only[Ye,Ya,Yc])<;>rfl)(hd:o.dst=none:=by rfl)(d:o.guard=none:=by rfl){y:yAf}(c:o.op=.store T (.tmp t) y:=by rfl)(hx:a.eval (.tmp t)=oZ k off:=by rfl)(g:a.eval y=v:=by rfl)
 (i:a.put none Zp=a':=by(simp only[XK])<;>rfl) (b:(Yf .any ops listed,Yf .any ops (listed.setIfInBounds p true),J.b,(listed.setIfInBounds p true).getD p false,(listed.setIfInBounds p true).getD r false)=([p],[],true,true,true):=by kernel_rfl):AW P ops Q p r J (fuel+1) listed a w:=λe=>by
 simp only[Ze.injEq]at b;obtain⟨l,m⟩:=h e;subst i;exact anyS.sta ho T (.tmp t) y c k off us.toArray j l f (X9 b.2.2) (anyS.done b.2.1 m _) hx (g.trans hv.out.symm) b.1 d hd
theorem AW.ss(i:Nat){us:List Xu}{k off:Nat}(hv:Hid (.agg us.toArray=v))(n:us.toArray.all (·.oneCell')=true)(f:(P.info? T).map (·.size)=some us.length)(q:Hid (w.setCells k off us=w'))(h:J.p w->w.there k off us.length/\J.p w')(g:AW P ops Q p r J fuel (listed.setIfInBounds i true) a' w')(ho:ops[i]? = some o:=by(simp only[Ye,Ya,Yc])<;>rfl)(hd:o.dst=none:=by rfl)(d:o.guard=none:=by rfl){y:yAf}(b:o.op=.store T (.tmp t) y:=by rfl)(hx:a.eval (.tmp t)=oZ k off:=by rfl)(l:a.eval y=v:=by rfl)
 (m:a.put none Zp=a':=by(simp only[XK])<;>rfl) (j:Yf .any ops listed=[i]:=by kernel_rfl):AW P ops Q p r J (fuel+1) listed a w:=λe=>by
 obtain⟨s,c⟩:=h e;obtain rfl:=q.out;subst m;exact anyS.sta ho T (.tmp t) y b k off us.toArray n s f (X0 c) (g c) hx (l.trans hv.out.symm) j d hd
theorem AW.f2{us us':List Xu}{k d:Nat}{B:Xu}{u:Yd}(hv:Hid (.agg us.toArray=v))(j:Hid (.agg us'.toArray=B))(N:us.toArray.all (·.oneCell')=true)(I:(P.info? T).map (·.size)=some us.length)(n:us'.toArray.all (·.oneCell')=true)(f:(P.info? u).map (·.size)=some us'.length)(h:J.p w->w.there k 0 us.length/\(w.setCells k 0 us).there d 0 us'.length/\Q .normal a' ((w.setCells k 0 us).setCells d 0 us'))(ho:ops[p]? = some o:=by(simp only[Ye,Ya,Yc])<;>rfl)(hd:o.dst=none:=by rfl)(D:o.guard=none:=by rfl){y:yAf}(g:o.op=.store T (.tmp t) y:=by rfl)(hx:a.eval (.tmp t)=jZ k:=by rfl)(K:a.eval y=v:=by rfl)
 (M:a.put none Zp=a':=by(simp only[XK])<;>rfl){c:Yo}{z:yAf}{x:Zs}(m:ops[p+1]? = some c:=by(simp only[Ye,Ya,Yc])<;>rfl) (i:c.dst=none:=by rfl) (e:c.guard=none:=by rfl) (b:c.op=.store u (.tmp x) z:=by rfl) (q:a'.eval (.tmp x)=jZ d:=by rfl) (l:a'.eval z=B:=by rfl) (s:a'.put none Zp=a':=by rfl)
 (A:(Yf .any ops listed,Yf .any ops (listed.setIfInBounds p true),Yf .any ops ((listed.setIfInBounds p true).setIfInBounds (p+1) true),J.b,(listed.setIfInBounds p true).getD p false,(listed.setIfInBounds p true).getD r false,((listed.setIfInBounds p true).setIfInBounds (p+1) true).getD p false,((listed.setIfInBounds p true).setIfInBounds (p+1) true).getD r false)=([p],[p+1],[],true,true,true,true,true):=by kernel_rfl):AW P ops Q p r J (fuel+2) listed a w:=λE=>by
 simp only[Ze.injEq]at A;obtain⟨C,V,U,c,H,G,F,O⟩:=A;obtain⟨R,S,L⟩:=h E;subst M;exact anyS.sta ho T (.tmp t) y g k 0 us.toArray N R I (X9 ⟨c,H,G⟩) (anyS.sta m u (.tmp x) z b d 0 us'.toArray n S f (X9 ⟨c,F,O⟩) (anyS.done U (by rw[s];exact L) _) q (l.trans j.out.symm) V e i) hx (K.trans hv.out.symm) C D hd
end
end
section
variable {P:Nat}[NeZero P]{N:Nat}
theorem uBy:(prog.underlying 23).map (·.isRow)=some false:=kR
theorem WW(q:Option YW)(n c k:Nat)(w:Xs):(Yr 27 2 #[(0,.slice q n c),(1,sZ k 4 4)]).run prog w=.ok (sZ w.heap.size 2 2) (w.alloc (.cells #[.slice q n c,sZ k 4 4] 23)):=kR
theorem Rq{w:Xs}{u v:Xu}{x y:List UInt8}(k:PartOk w u x)(e:PartOk w v y)(T:Yd):PartsOk (w.alloc (.cells #[u,v] T)) (some (aZ w.heap.size)) [x,y]:=by
 have b:=aC w (.cells #[u,v] T);refine X0 ⟨_,_,rfl,λj d=>?_⟩;have c:=(row_new w [u,v] T).2.1 j;match j,d with
 | 0,_=>exact⟨u,c u rfl,k.below b⟩
 | 1,_=>exact⟨v,c v rfl,e.below b⟩
theorem SO(O:Ord N)(b:ByteArray)(z:b.size<=1000)(l:List UInt8)(q:Option YW)(n c i j s:Nat)(E:i<4294967296)(w:Xs)(A:j<w.heap.size)(B:s<w.heap.size)(c1:w.cell? ⟨j,0,none⟩=some (.string b))(c2:w.cell? ⟨s,0,none⟩=some (.slice q n c))(I:PartOk w (.slice q n c) l):
 XH prog 181 #[iZ i,jZ j,jZ s] w (rZ w λe w'=>e=nv (chL N b.data.toList [l,(gB i).toList])):=by
 obtain⟨k,y⟩:=hE (w.heap.size);obtain⟨H,d⟩:=hE (w.alloc (.cells (RG.z 4).toArray 44));have g:=aM y d;have v:=λ(W:Xs) (C:Option YW) (h:PartsOk W C [l,(gB i).toList])=>Df O b C 2 2 [l,(gB i).toList] W oM rfl dC h
 generalize chL N b.data.toList [l,(gB i).toList]=x at v⊢;have a:=mk1 v;obtain⟨L,m⟩:=hE (nv x);rw[m.out]at a;clear v;go_enter func181,ntmps181;go_wp2_with (first|(refine alR 4 y d ?_)|fail)
 refine AW.begin 6 6 ?_;refine AW.ce 0 u9s (λW f=>by rw[f.cell (p:=⟨j,0,none⟩) (Xz A g.1.size),g.1.cell (p:=⟨j,0,none⟩) A];exact c1) ?_;refine AW.ce 1 uBy (λW f=>by rw[f.cell (p:=⟨s,0,none⟩) (Xz B g.1.size),g.1.cell (p:=⟨s,0,none⟩) B];exact c2) ?_;refine AW.mv 2 ?_;refine AW.ca 3 (λ_=>yE i E _) (λe w' h=>h.1) ?_;rintro e G ⟨u,r,rfl,D,t⟩;simp only[XK,Xt,Xv,Xw];refine AW.ns 4 (WW q n c r G) (aC _ _) ?_;refine AW.gi 5 (λf=>a _ _ (Rq (I.below (g.1.trans (((XM _ H).drew.trans u).mono g.1.size))) (Eg t) _)) ?_;intro J F;refine AW.fi (us:=wn x) m (aI x) i40 (λf=>?_);obtain⟨K,o⟩:=hE (J.setCells k 0 (wn x));have R:=tC y d f o;rw[o.out];refine⟨R.1,?_⟩;go_wp2_with fail
 refine XE (aF 4 44 rfl R.2.2 rfl u40 i40) rfl ?_;exact⟨_,rfl,R.2.1,rfl⟩
theorem U8(O:Ord N)(k:ByteArray)(j:k.size<=1000)(p:List UInt8)(q:Option YW)(n c m:Nat)(A:m<=64)(w:Xs)(z:PartOk w (.slice q n c) p):
 XH prog 127 #[.string k,iZ m,.slice q n c] w (rZ w λe w'=>SLq (w.heap.size<=·) w' e m (λi=>chL N k.data.toList [p,(gB i).toList])):=by
 obtain⟨x,f⟩:=hE ((w.alloc (.cells #[.string k] 9)).alloc (.cells #[.slice q n c] 23));have b1:=aC w (.cells #[.string k] 9);have t:=aC (w.alloc (.cells #[.string k] 9)) (.cells #[.slice q n c] 23);have o:=(row_new w [.string k] 9).below t;have l:=row_new (w.alloc (.cells #[.string k] 9)) [.slice q n c] 23;have b:=b1.trans (t.mono b1.size);rw[XF]at l;simp only[f.out]at o l b;have HL:=mk1 (jJ m oM 181 #[jZ w.heap.size,.pointer (some ⟨w.heap.size+1,0,none⟩)] (λ_ _=>kR) (λi=>chL N k.data.toList [p,(gB i).toList]) x (λi W a d=>SO O k j p q n c i _ _ oM W (Xz o.1 d.size) (Xz l.1 d.size) ((o.below d).2.1 0 _ rfl) ((l.below d).2.1 0 _ rfl) ((z.below b).below d)));have r:=mk1 b;clear b1 t o l b;go_enter func127,ntmps127;go_wp2_with fail
 rw[f.out];refine HL.mono ?_;rintro e B ⟨v,rfl,s,hG⟩;have y:=mk2 (r.trans (s.mono r.size)) (hG.mono λg u=>XB r.size u);go_wp2;go_ret;exact⟨_,rfl,y.out⟩
end
section
variable {N:Nat}
theorem uLi:(prog.underlying 145).map (·.isRow)=some true:=kR
theorem iLi:(prog.info? 145).map (·.size)=some 2:=kR
structure Ln(Q:Nat->Prop)(W:Xs)(v:Xu)(n:Nat)(a b:Nat->Nat):Prop where
 ex:∃x y,v=.agg #[x,y]/\SLq Q W x n a/\SLq Q W y n b
section
variable {Q Q':Nat->Prop}{W W':Xs}{v:Xu}{n:Nat}{a b:Nat->Nat}
theorem Ln.keep(h:Ln Q W v n a b)(k:Kq Q W W'):Ln Q W' v n a b:=by
 obtain⟨x,y,c,d,e⟩:=h.ex;exact⟨x,y,c,d.keep k,e.keep k⟩
theorem Ln.mono(h:Ln Q W v n a b)(k:∀g,Q g->Q' g):Ln Q' W v n a b:=by
 obtain⟨x,y,c,d,e⟩:=h.ex;exact⟨x,y,c,d.mono k,e.mono k⟩
end
theorem cB{Q:Nat->Prop}{W:Xs}{x:Xu}{n:Nat}{a:Nat->Nat}(h:SLq Q W x n a):x.oneCell'=true/\∃g o c,x=.slice (some ⟨g,o,none⟩) n c:=by
 obtain⟨g,o,c,rfl,-⟩:=h;exact⟨rfl,_,_,_,rfl⟩
theorem Uz(O:Ord N)(v:Nat)(hv:v<18446744073709551616)(m:Nat)(hm:m<=64)(D:List UInt8)(q:Option YW)(n c:Nat)(w:Xs)(hp:PartOk w (.slice q n c) D):
 XH prog 75 #[uZ v,iZ m,.slice q n c] w (rZ w λe w'=>∃x y,e=.tuple #[x,y]/\Ln (w.heap.size<=·) w' x m (λi=>v/2^i%2) (λi=>chL N [115,108] [D,(gB i).toList])/\Ln (w.heap.size<=·) w' y m (λi=>sMi N (v/2^i%2) 1) (λi=>chL N [115,114] [D,(gB i).toList])):=by
 obtain⟨vf,d⟩:=hE (yCG (.func 124) #[] #[jZ w.heap.size]);obtain⟨k,K⟩:=hE (w.heap.size);obtain⟨wa,X⟩:=hE (w.alloc (.cells [uZ v].toArray 24));obtain⟨T,I⟩:=hE (wa.heap.size);obtain⟨wb,L⟩:=hE (wa.alloc (.cells [.slice none 0 0,.slice none 0 0].toArray 145));obtain⟨J,B⟩:=hE (wb.heap.size);obtain⟨wc,Q⟩:=hE (wb.alloc (.cells [.slice none 0 0,.slice none 0 0].toArray 145));obtain⟨s,r⟩:=hE (wc.heap.size);obtain⟨wd,A⟩:=hE (wc.alloc (.cells [.nilFunc].toArray 224));obtain⟨p,S⟩:=hE (wd.setCells s 0 [vf]);have Fa:=aM K X;have Fb:=aM I L;have P:=aM B Q;have Fe:=Gm r A S rfl;rw[K.out]at d;have bc:=Fb.1.trans (P.1.mono Fb.1.size);have be:=bc.trans (Fe.2.1.mono bc.size);have b:=mk6 (Fa.1.trans (be.mono Fa.1.size)) (Fa.2.below be) (Fb.2.below (P.1.trans (Fe.2.1.mono P.1.size))) (P.2.below Fe.2.1) Fe.2.2 (show k<T/\T<J/\J<s from⟨by rw[<-I.out];exact Fa.2.1,by rw[<-B.out];exact Fb.2.1,by rw[<-r.out];exact P.2.1⟩);have h5:∀(fn:Fn) (first cap:Array Xu) (w:Xs),(yAW fn first cap).run prog w=.ok (.func fn first cap) w:=λ_ _ _ _=>rfl
 have h1:=mk1 (aM r A).2.2.2;have h6:p.cell? ⟨s,0,none⟩=some vf:=b.2.2.2.2.1.2.1 0 _ rfl;have H1:Hid (∀W,kZ p W->XH prog 126 #[iZ m,vf] W (rZ W λe w'=>SLq (W.heap.size<=·) w' e m (λi=>v/2^i%2))):=λW t=>by
  rw[<-d.out];exact jJ m oM 124 #[jZ k] (λ_ _=>kR) _ W λi V j f=>KI v i k hv oM V (Xz b.2.1.1 (XB t.size f.size)) (((b.2.1.below t).below f).2.1 0 _ rfl)
 have H2:Hid (∀W,kZ p W->XH prog 126 #[iZ m,.func (.func 125) #[] #[jZ s]] W (rZ W λe w'=>SLq (W.heap.size<=·) w' e m (λi=>sMi N (v/2^i%2) 1))):=λW t =>
  jJ m oM 125 #[jZ s] (λ_ _=>kR) _ W λi V j f=>RX O v i k s hv oM V (Xz b.2.1.1 (XB t.size f.size)) (Xz b.2.2.2.2.1.1 (XB t.size f.size)) (((b.2.1.below t).below f).2.1 0 _ rfl) (by rw[((b.2.2.2.2.1.below t).below f).2.1 0 _ rfl,d.out])
 have HC:Hid (∀(l:ByteArray) W,l.size<=1000->kZ p W->XH prog 127 #[.string l,iZ m,.slice q n c] W (rZ W λe w'=>SLq (W.heap.size<=·) w' e m (λi=>chL N l.data.toList [D,(gB i).toList]))):=λl W hl t=>U8 O l hl D q n c m hm W ((hp.below b.1).below t)
 go_enter func75,ntmps75;go_wp2_with (first|(refine alR 3 K X ?_)|(refine alR 6 I L ?_)|(refine alR 7 B Q ?_)|(refine alR 8 r A ?_)|(refine qI rfl 224 _ _ rfl s 0 vf ?_ ?_ ?_ ?_ h1.out kR ?_;rfl;exact d.out;(rw[<-d.out];rfl);(rw[<-d.out];rfl);rw[S.out])|fail)
 refine(H1 p (XM _ _)).mono ?_;rintro e w1 ⟨x1,rfl,o,H⟩;go_wp2_with fail
 refine(HC _ w1 dC o).mono ?_;rintro e w2 ⟨x2,rfl,f,F⟩;have b2:=o.trans (f.mono o.size);obtain⟨-,Z,o1,c1,e1⟩:=cB H;obtain⟨-,g2,o2,c2,e2⟩:=cB F;subst e1 e2;go_wp2_with fail
 refine(H2 w2 b2).mono ?_;rintro e w3 ⟨x3,rfl,j,G⟩;have b3:=b2.trans (j.mono b2.size);go_wp2_with fail
 refine(HC _ w3 dC b3).mono ?_;rintro e w4 ⟨x4,rfl,u,C⟩;have b4:=b3.trans (u.mono b3.size);obtain⟨-,g3,o3,c3,e3⟩:=cB G;obtain⟨-,g4,o4,c4,e4⟩:=cB C;subst e3 e4;obtain⟨w5,U⟩:=hE (w4.setCells T 0 [.slice (some ⟨Z,o1,none⟩) m c1,.slice (some ⟨g2,o2,none⟩) m c2]);obtain⟨z,V⟩:=hE (w5.setCells J 0 [.slice (some ⟨g3,o3,none⟩) m c3,.slice (some ⟨g4,o4,none⟩) m c4]);obtain⟨h4,h3,h2⟩:=b.2.2.2.2.2;have h0:=b.2.2.2.2.1.1;have s1:=o.size;have s2:=f.size;have s3:=j.size;have R4:=mk2 (b.2.2.1.below b4) (b.2.2.2.1.below b4);have M:Hid (kZ w z/\Row z T [.slice (some ⟨Z,o1,none⟩) m c1,.slice (some ⟨g2,o2,none⟩) m c2]/\Row z J [.slice (some ⟨g3,o3,none⟩) m c3,.slice (some ⟨g4,o4,none⟩) m c4]/\w5.there J 0 2/\Kq (s < ·) w4 z):=by
  rw[<-V.out,<-U.out];have E:Row (w4.setCells T 0 [.slice (some ⟨Z,o1,none⟩) m c1,.slice (some ⟨g2,o2,none⟩) m c2]) J _:=aP R4.2 oM;refine⟨RG.below_setCells (by rw[K.out];omega) _ _ _ (RG.below_setCells (by rw[K.out];omega) _ _ _ (b.1.trans (b4.mono b.1.size))),aP (R4.1.put rfl) oM,E.put rfl,E.2.2,?_⟩;exact⟨by rw[setCells_size,setCells_size];exact Xx _,λg hg _=>by rw[aE _ _ _ _ g oM,aE _ _ _ _ g oM]⟩
 have Y:∀ {W:Xs}{x:Xu}{a:Nat->Nat},p.heap.size<=W.heap.size->SLq (W.heap.size<=·) w4 x m a->SLq (w.heap.size<=·) z x m a:=λhW h=>((h.mono (Q':=(s < ·)) λg hg=>oM).keep M.2.2.2.2).mono λg hg=>by rw[K.out];omega
 have E:=j.trans (u.mono j.size);have R:=f.trans (E.mono f.size);have KR:Hid (Ln (w.heap.size<=·) z (.agg #[.slice (some ⟨Z,o1,none⟩) m c1,.slice (some ⟨g2,o2,none⟩) m c2]) m (λi=>v/2^i%2) (λi=>chL N [115,108] [D,(gB i).toList])/\Ln (w.heap.size<=·) z (.agg #[.slice (some ⟨g3,o3,none⟩) m c3,.slice (some ⟨g4,o4,none⟩) m c4]) m (λi=>sMi N (v/2^i%2) 1) (λi=>chL N [115,114] [D,(gB i).toList])):=
  ⟨⟨_,_,rfl,Y (Xx _) (H.keep (Kq.of_below R)),Y s1 (F.keep (Kq.of_below E))⟩,⟨_,_,rfl,Y oM (G.keep (Kq.of_below u)),Y oM C⟩⟩
 clear Y E R H F G C s1 s2 s3 h4 h3 h2 h0 o f j u b2 b3 b4 H1 H2 HC;go_wp2_with (first|(refine stR 6 U (Hid.mk' rfl) R4.1.2.2 iLi kR ?_)|(refine stR 7 V (Hid.mk' rfl) M.2.2.2.1 iLi kR ?_)|fail)
 refine XE (qR 6 7 145 145 rfl M.2.1 M.2.2.1 rfl rfl uLi iLi uLi iLi) rfl ?_;exact⟨_,rfl,M.1,_,_,rfl,KR.out⟩
theorem uF2:(prog.underlying 236).map (·.isRow)=some false:=kR
theorem uSl:(prog.underlying 143).map (·.isRow)=some false:=kR
theorem EV{w c W:Xs}{k:Nat}{x:Xu}(b:kZ w c)(d:k<w.heap.size)(e:w.cell? ⟨k,0,none⟩=some x)(f:kZ c W):W.cell? ⟨k,0,none⟩=some x:=by
 rw[f.cell (p:=⟨k,0,none⟩) (Xz d b.size),b.cell (p:=⟨k,0,none⟩) d];exact e
theorem row_of{w c W:Xs}{k o:Nat}{cs:List Xu}(b:kZ w c)(d:k<w.heap.size)(e:w.rangeAt k o cs)(f:kZ c W):W.rangeAt k o cs:=RG.range_below (RG.range_below e b d) f (Xz d b.size)
theorem Rr(f:ZY)(hf:∀args W,(callFunc f args).run prog W=.ok (.enter f args) W)(x y z:Nat)(A:Gives f #[nv x,nv y] (nv z))(i t p v n a r c1 o s q c2:Nat)(L:i<r)(M:i<q)(w:Xs)(lf:t<w.heap.size)(G:p<w.heap.size)(D:v<w.heap.size)(I:n<w.heap.size)(C:o<w.heap.size)(O:w.cell? ⟨t,0,none⟩=some (.func (.func f) #[] #[]))(F:w.cell? ⟨p,0,none⟩=some (.slice (some ⟨n,a,none⟩) r c1))(J:w.cell? ⟨v,0,none⟩=some (.slice (some ⟨o,s,none⟩) q c2))(B:w.rangeAt n (a+4*i) (wn x))(E:w.rangeAt o (s+4*i) (wn y)):
 XH prog 189 #[iZ i,jZ t,jZ p,jZ v] w (rZ w λe w'=>e=nv z):=by
 obtain⟨k,u⟩:=hE (w.heap.size);obtain⟨U,c⟩:=hE (w.alloc (.cells (RG.z 4).toArray 44));have j:=aM u c;obtain⟨S,g⟩:=hE (nv x);obtain⟨T,m⟩:=hE (nv y);obtain⟨Q,d⟩:=hE (nv z);rw[g.out,m.out,d.out]at A;have K:=mk1 A;go_enter func189,ntmps189;go_wp2_with (first|(refine alR 5 u c ?_)|fail)
 refine AW.begin 10 10 ?_;refine AW.ce 0 uF2 (λW b=>EV j.1 lf O b) ?_;refine AW.ce 1 uSl (λW b=>EV j.1 G F b) ?_;refine AW.mv 2 ?_;refine AW.iv 3 (mC n a r c1 i L) ?_;refine AW.ro 4 (λW b=>row_of j.1 I B b) g rSc nSc ?_;refine AW.ce 5 uSl (λW b=>EV j.1 D J b) ?_;refine AW.mv 6 ?_;refine AW.iv 7 (mC o s q c2 i M) ?_;refine AW.ro 8 (λW b=>row_of j.1 C E b) m rSc nSc ?_;refine AW.gi 9 (λ_=>K _) ?_ (hx:=SU hf rfl rfl rfl rfl);intro N H;refine AW.fi (us:=wn z) d (aI z) i40 (λb=>?_);obtain⟨P,l⟩:=hE (N.setCells k 0 (wn z));have R:=tC u c b l;rw[l.out];refine⟨R.1,?_⟩;go_wp2_with fail
 refine XE (aF 5 44 rfl R.2.2 rfl u40 i40) rfl ?_;exact⟨_,rfl,R.2.1,rfl⟩
theorem O2{w j g k:Xs}{l n m:Nat}{x y z:List Xu}{T U V:Yd}(i:Hid (w.heap.size=l))(p:Hid (w.alloc (.cells x.toArray T)=j))(f:Hid (j.heap.size=n))(q:Hid (j.alloc (.cells y.toArray U)=g))(e:Hid (g.heap.size=m))(o:Hid (g.alloc (.cells z.toArray V)=k)):Hid (kZ w k/\Row k l x/\Row k n y/\Row k m z):=by
 have a:=(aM i p).out;have b:=(aM f q).out;have c:=(aM e o).out;have d:=b.1.trans (c.1.mono b.1.size);exact⟨a.1.trans (d.mono a.1.size),a.2.below d,b.2.below c.1,c.2⟩
theorem PK{Q:Nat->Prop}(f:ZY)(hf:∀args W,(callFunc f args).run prog W=.ok (.enter f args) W)(F:Nat->Nat->Nat)(n:Nat)(hn:n<=64)(a b:Nat->Nat)(T:∀i,i<n->Gives f #[nv (a i),nv (b i)] (nv (F (a i) (b i))))(va E:Xu)(w:Xs)(X:SLq Q w va n a)(Y:SLq Q w E n b):
 XH prog 139 #[.func (.func f) #[] #[],va,E] w (rZ w λe w'=>SLq (w.heap.size<=·) w' e n (λi=>F (a i) (b i))):=by
 obtain⟨x,C,c1,rfl,-,-,R,L⟩:=X;obtain⟨J,I,c2,rfl,-,-,O,P⟩:=Y;obtain⟨vf,c⟩:=hE (yCG (.func f) #[] #[]);obtain⟨r,p⟩:=hE (w.heap.size);obtain⟨t,d⟩:=hE (w.alloc (.cells [vf].toArray 236));obtain⟨A,l⟩:=hE (t.heap.size);obtain⟨G,q⟩:=hE (t.alloc (.cells [.slice (some ⟨x,C,none⟩) n c1].toArray 143));obtain⟨H,j⟩:=hE (G.heap.size);obtain⟨K,o⟩:=hE (G.alloc (.cells [.slice (some ⟨J,I,none⟩) n c2].toArray 143));have B:=O2 p d l q j o;have z:Hid ((Yl 236 vf).run prog w=.ok (jZ r) t):=by rw[<-d.out,<-p.out,<-c.out];exact Hid.mk' kR
 have M:K.cell? ⟨A,0,none⟩=some (.slice (some ⟨x,C,none⟩) n c1):=B.2.2.1.2.1 0 _ rfl;have HL:=mk1 (jJ n oM 189 #[jZ r,jZ A,jZ H] (λ_ _=>kR) (λi=>F (a i) (b i)) K λi W m k=>by
  have y:=B.1.trans (k.mono B.1.size);have s:=y.size;exact Rr f hf (a i) (b i) _ (T i m) i r A H x C n c1 J I n c2 m m W (B.2.1.below k).1 (B.2.2.1.below k).1 (B.2.2.2.below k).1 oM oM (by rw[(B.2.1.below k).2.1 0 _ rfl,c.out]) ((B.2.2.1.below k).2.1 0 _ rfl) ((B.2.2.2.below k).2.1 0 _ rfl) (RG.range_below (L i m) y R) (RG.range_below (P i m) y O))
 have U:∀(D:Fn) (first cap:Array Xu) (w:Xs),(yAW D first cap).run prog w=.ok (.func D first cap) w:=λ_ _ _ _=>rfl
 rw[c.out];go_enter func139,ntmps139;go_wp2_with (first|(refine aG (u:=vf) (v:=jZ r) (w':=t) rfl _ (.tmp 0) rfl ?_ ?_ ?_;rfl;exact z.out)|(refine alR 4 l q ?_)|(refine alR 5 j o ?_)|fail)
 refine HL.mono ?_;rintro e Z ⟨v,rfl,y,V⟩;have S:=mk2 (B.1.trans (y.mono B.1.size)) (V.mono λg N=>XB B.1.size N);go_wp2;go_ret;exact⟨_,rfl,S.out⟩
theorem SLq.set{W:Xs}{B k o n:Nat}{vs:List Xu}{x:Xu}{a:Nat->Nat}(h:SLq (B<=·) W x n a)(b:k<B):SLq (B<=·) (W.setCells k o vs) x n a:=h.keep (Kq.set λg c=>oM)
section
variable {Q:Nat->Prop}{w:Xs}{n:Nat}{v u:Xu}{a b c:Nat->Nat}
theorem Gv(x y:Xu)(hx:x.oneCell'=true)(m:y.oneCell'=true)(w:Xs):∃k c e d,Hid (w.heap.size=k)/\Hid (w.alloc (.cells [x,y].toArray 145)=c)/\Hid (c.heap.size=e)/\Hid (c.alloc (.cells [.slice none 0 0,.slice none 0 0].toArray 145)=d)/\Hid (kZ w d/\Row d k [x,y]/\Row d e [.slice none 0 0,.slice none 0 0]/\k<e):=by
 obtain⟨k,l⟩:=hE (w.heap.size);obtain⟨c,j⟩:=hE (w.alloc (.cells [x,y].toArray 145));obtain⟨e,b⟩:=hE (c.heap.size);obtain⟨d,i⟩:=hE (c.alloc (.cells [.slice none 0 0,.slice none 0 0].toArray 145));have f:=(aM l j).out;have g:=(aM b i).out;exact⟨k,c,e,d,l,j,b,i,f.1.trans (g.1.mono f.1.size),f.2.below g.1,g.2,by rw[<-b.out];exact f.2.1⟩
theorem PO(O:Ord N)(P:n<=64)(U:∀i,i<n->a i<N)(L:∀i,i<n->c i<N)(h:Ln Q w v n a b)(V:SLq Q w u n c):
 XH prog 81 #[v,u] w (rZ w λe w'=>Ln (λg=>Q g\/w.heap.size<=g) w' e n (λi=>sPl N (a i) (c i)) b):=by
 obtain⟨x,y,rfl,hx,G⟩:=h.ex;obtain⟨X,Z,o1,c1,rfl⟩:=cB hx;obtain⟨Y,l,j,c2,rfl⟩:=cB G;obtain⟨k,w1,z,w2,I,r,t,s,F⟩:=Gv _ _ X Y w;have T:=mk1 (λ(W:Xs) (d:kZ w W)=>PK (Q:=λ_=>True) 25 (λ_ _=>kR) (sPl N) n P a c (λi D=>mM O _ _ (U i D) (L i D)) _ _ W ((hx.keep (Kq.of_below d)).mono λ_ _=>trivial) ((V.keep (Kq.of_below d)).mono λ_ _=>trivial));go_enter func81,ntmps81;go_wp2_with (first|(refine alR 2 I r ?_)|(refine alR 4 t s ?_)|fail)
 refine AW.begin 7 7 ?_;refine AW.va 0 (jZ k) ?_;refine AW.ce 1 uSl (λW d=>(F.2.1.below d).2.1 0 _ rfl) ?_;refine AW.mv 2 ?_;refine AW.va 4 (oZ k 1) ?_;refine AW.ce 5 uSl (λW d=>(F.2.1.below d).2.1 1 _ rfl) ?_;refine AW.ca 3 (λd=>T _ (F.1.trans (d.mono F.1.size))) (λe w' h=>h.1) ?_;rintro e H ⟨M,J⟩;simp only[XK,Xt,Xv,Xw];obtain⟨h5,m,o,f,rfl⟩:=cB J;refine AW.va 6 (.agg #[.slice (some ⟨m,o,none⟩) n f,.slice (some ⟨l,j,none⟩) n c2]) ?_;refine AW.fi (us:=[.slice (some ⟨m,o,none⟩) n f,.slice (some ⟨l,j,none⟩) n c2]) (Hid.mk' rfl) kR iLi (λd=>?_);have C:=F.2.2.1.below d;refine⟨C.2.2,?_⟩;obtain⟨q,p⟩:=hE (H.setCells z 0 [.slice (some ⟨m,o,none⟩) n f,.slice (some ⟨l,j,none⟩) n c2]);have R:Hid (kZ w q/\Row q z [.slice (some ⟨m,o,none⟩) n f,.slice (some ⟨l,j,none⟩) n c2]/\Ln (λg=>Q g\/w.heap.size<=g) q (.agg #[.slice (some ⟨m,o,none⟩) n f,.slice (some ⟨l,j,none⟩) n c2]) n (λi=>sPl N (a i) (c i)) b):=by
  have S:=F.1.trans (d.mono F.1.size);have B:w.heap.size<=z:=by rw[I.out];exact yAl F.2.2.2
  have E:=RG.below_setCells B [.slice (some ⟨m,o,none⟩) n f,.slice (some ⟨l,j,none⟩) n c2] 0 H S;rw[<-p.out];exact⟨E,C.put rfl,_,_,rfl,(J.set F.2.2.1.1).mono λg K=>X0 (XB F.1.size K),(G.keep (Kq.of_below E)).mono λ_ h=>X9 h⟩
 rw[p.out];go_wp2_with fail
 refine XE (aF 4 145 rfl R.2.1 rfl uLi iLi) rfl ?_;exact⟨_,rfl,R.1,R.2.2⟩
theorem Ux(O:Ord N)(U:n<=64)(C:∀i,i<n->a i<N)(d:∀i,i<n->b i<N)(T:∀i,i<n->c i<N)(h:Ln Q w v n a b)(X:SLq Q w u n c):
 XH prog 82 #[v,u] w (rZ w λe w'=>Ln (w.heap.size<=·) w' e n (λi=>sTi N (a i) (c i)) (λi=>sTi N (b i) (c i))):=by
 obtain⟨x,y,rfl,hx,M⟩:=h.ex;obtain⟨Y,g1,o1,c1,rfl⟩:=cB hx;obtain⟨Z,g2,o2,c2,rfl⟩:=cB M;obtain⟨k,w1,H,w2,P,A,G,E,F⟩:=Gv _ _ Y Z w;have L:=mk1 (λ(x:Xu) (a:Nat->Nat) (C:∀i,i<n->a i<N) (hx:SLq Q w x n a) (W:Xs) (d:kZ w W)=>PK (Q:=λ_=>True) 26 (λ_ _=>kR) (sTi N) n U a c (λi K=>gV O _ _ (C i K) (T i K)) _ _ W ((hx.keep (Kq.of_below d)).mono λ_ _=>trivial) ((X.keep (Kq.of_below d)).mono λ_ _=>trivial));go_enter func82,ntmps82;go_wp2_with (first|(refine alR 2 P A ?_)|(refine alR 4 G E ?_)|fail)
 refine AW.begin 9 9 ?_;refine AW.va 0 (jZ k) ?_;refine AW.ce 1 uSl (λW d=>(F.2.1.below d).2.1 0 _ rfl) ?_;refine AW.mv 2 ?_;refine AW.va 4 (oZ k 1) ?_;refine AW.ce 5 uSl (λW d=>(F.2.1.below d).2.1 1 _ rfl) ?_;refine AW.mv 6 ?_;refine AW.ca 3 (λd=>L _ a C hx _ (F.1.trans (d.mono F.1.size))) (λe w' h=>h.1) ?_;rintro e W3 ⟨l,S⟩;simp only[XK,Xt,Xv,Xw];obtain⟨h5,q,s,j,rfl⟩:=cB S;refine AW.ca 7 (λD=>L _ b d M _ (F.1.trans (D.mono F.1.size))) (λe w' h=>h.1) ?_;rintro e W4 ⟨B,m⟩;simp only[XK,Xt,Xv,Xw];obtain⟨h6,r,f,o,rfl⟩:=cB m;refine AW.va 8 (.agg #[.slice (some ⟨q,s,none⟩) n j,.slice (some ⟨r,f,none⟩) n o]) ?_;refine AW.fi (us:=[.slice (some ⟨q,s,none⟩) n j,.slice (some ⟨r,f,none⟩) n o]) (Hid.mk' rfl) kR iLi (λd=>?_);have J:=F.2.2.1.below d;refine⟨J.2.2,?_⟩;obtain⟨z,p⟩:=hE (W4.setCells H 0 [.slice (some ⟨q,s,none⟩) n j,.slice (some ⟨r,f,none⟩) n o]);have R:Hid (kZ w z/\Row z H [.slice (some ⟨q,s,none⟩) n j,.slice (some ⟨r,f,none⟩) n o]/\Ln (w.heap.size<=·) z (.agg #[.slice (some ⟨q,s,none⟩) n j,.slice (some ⟨r,f,none⟩) n o]) n (λi=>sTi N (a i) (c i)) (λi=>sTi N (b i) (c i))):=by
  have V:=F.1.trans (d.mono F.1.size);have I:w.heap.size<=H:=by rw[P.out];exact yAl F.2.2.2
  rw[<-p.out];exact⟨RG.below_setCells I _ _ _ V,J.put rfl,_,_,rfl,((S.keep (Kq.of_below B)).set F.2.2.1.1).mono λg t=>XB F.1.size t,(m.set (Xz F.2.2.1.1 l.size)).mono λg t=>XB F.1.size (XB l.size t)⟩
 rw[p.out];go_wp2_with fail
 refine XE (aF 4 145 rfl R.2.1 rfl uLi iLi) rfl ?_;exact⟨_,rfl,R.1,R.2.2⟩
end
end
section
variable {P:Nat}[NeZero P]{N:Nat}
theorem RY(O:Ord N)(x y z:Nat)(hx:x<N)(K:y<N)(I:z<N)(i o F p D a c1 t A v c2:Nat)(M:i<a)(P:i<v)(w:Xs)(J:p<w.heap.size)(H:t<w.heap.size)(E:Row w o [.slice (some ⟨p,D,none⟩) a c1,.slice (some ⟨t,A,none⟩) v c2])(L:Row w F (wn z))(G:w.rangeAt p (D+4*i) (wn x))(S:w.rangeAt t (A+4*i) (wn y)):
 XH prog 141 #[iZ i,jZ o,jZ F] w (rZ w λe w'=>e=nv (sPl N x (sTi N y z))):=by
 obtain⟨k,C⟩:=hE (w.heap.size);obtain⟨w1,c⟩:=hE (w.alloc (.cells (RG.z 4).toArray 44));have l:=aM C c;have B:=gV O y z K I;have u:sTi N y z<N:=Y9 _ O.pos;have q:=mM O x (sTi N y z) hx u;generalize sTi N y z=s at B q⊢;generalize sPl N x s=r at q⊢;obtain⟨X,j⟩:=hE (nv x);obtain⟨Y,n⟩:=hE (nv y);obtain⟨V,g⟩:=hE (nv z);obtain⟨vs,d⟩:=hE (nv s);obtain⟨U,f⟩:=hE (nv r);rw[n.out,g.out,d.out]at B;rw[j.out,d.out,f.out]at q;go_enter func141,ntmps141;go_wp2_with (first|(refine alR 4 C c ?_)|fail)
 refine AW.begin 13 13 ?_;refine AW.va 0 (jZ o) ?_;refine AW.ce 1 uSl (λW b=>((E.below l.1).below b).2.1 0 _ rfl) ?_;refine AW.mv 2 ?_;refine AW.iv 3 (mC p D a c1 i M) ?_;refine AW.ro 4 (λW b=>row_of l.1 J G b) j rSc nSc ?_;refine AW.va 5 (oZ o 1) ?_;refine AW.ce 6 uSl (λW b=>((E.below l.1).below b).2.1 1 _ rfl) ?_;refine AW.mv 7 ?_;refine AW.iv 8 (mC t A v c2 i P) ?_;refine AW.ro 9 (λW b=>row_of l.1 H S b) n rSc nSc ?_;refine AW.ro 10 (λW b=>((L.below l.1).below b).2.1) g rSc nSc ?_;refine AW.gi 11 (λ_=>B _) λZ _=>?_
 refine AW.gi 12 (λ_=>q _) λQ _=>?_
 refine AW.fi (us:=wn r) f (aI r) i40 (λb=>?_);obtain⟨T,m⟩:=hE (Q.setCells k 0 (wn r));have R:=tC C c b m;rw[m.out];refine⟨R.1,?_⟩;go_wp2_with fail
 refine XE (aF 4 44 rfl R.2.2 rfl u40 i40) rfl ?_;exact⟨_,rfl,R.2.1,rfl⟩
theorem UC(O:Ord N){Q:Nat->Prop}{n:Nat}(Y:n<=64){a b:Nat->Nat}(R:∀i,i<n->a i<N)(J:∀i,i<n->b i<N){z:Nat}(M:z<N){v:Xu}{w:Xs}(h:Ln Q w v n a b):
 XH prog 86 #[v,nv z] w (rZ w λe w'=>SLq (w.heap.size<=·) w' e n (λi=>sPl N (a i) (sTi N (b i) z))):=by
 obtain⟨x,y,rfl,hx,P⟩:=h.ex;obtain⟨o,q,c1,rfl,-,-,K,G⟩:=hx;obtain⟨C,B,c2,rfl,-,-,I,V⟩:=P;obtain⟨k,E⟩:=hE (w.heap.size);obtain⟨D,d⟩:=hE (w.alloc (.cells [.slice (some ⟨o,q,none⟩) n c1,.slice (some ⟨C,B,none⟩) n c2].toArray 145));obtain⟨u,j⟩:=hE (D.heap.size);obtain⟨t,l⟩:=hE (D.alloc (.cells (wn z).toArray 44));have f:=aM E d;have g:=aM j l;have F:=mk3 (f.1.trans (g.1.mono f.1.size)) (f.2.below g.1) g.2;have HL:=mk1 (jJ n oM 141 #[jZ k,jZ u] (λ_ _=>kR) (λi=>sPl N (a i) (sTi N (b i) z)) t λi W c m=>by
  have p:=F.1.trans (m.mono F.1.size);have s:=p.size;exact RY O (a i) (b i) z (R i c) (J i c) M i k u o q n c1 C B n c2 c c W oM oM (F.2.1.below m) (F.2.2.below m) (RG.range_below (G i c) p K) (RG.range_below (V i c) p I))
 have S:∀(r:Fn) (first cap:Array Xu) (w:Xs),(yAW r first cap).run prog w=.ok (.func r first cap) w:=λ_ _ _ _=>rfl
 have U:t.cell? ⟨k,0,none⟩=some (.slice (some ⟨o,q,none⟩) n c1):=F.2.1.2.1 0 _ rfl;go_enter func86,ntmps86;go_wp2_with (first|(refine alR 2 E d ?_)|(refine alR 3 j l ?_)|fail)
 refine HL.mono ?_;rintro e X ⟨v,rfl,p,T⟩;have L:=mk2 (F.1.trans (p.mono F.1.size)) (T.mono λg H=>XB F.1.size H);go_wp2;go_ret;exact⟨_,rfl,L.out⟩
theorem Uy(O:Ord N){Q:Nat->Prop}{n:Nat}(hn:n<=64){a b c d:Nat->Nat}(B:∀i,i<n->a i<N/\b i<N/\c i<N/\d i<N){v u:Xu}{w:Xs}(h:Ln Q w v n a b)(h':Ln Q w u n c d):
 XH prog 84 #[v,u] w (rZ w λe w'=>e=.tuple #[nv (sPl N (prS N a d n) (prS N b c n)),nv (prS N b d n)]):=by
 obtain⟨x,y,rfl,hx,hy⟩:=h.ex;obtain⟨-,g1,o1,c1,rfl⟩:=cB hx;obtain⟨-,g2,o2,c2,rfl⟩:=cB hy;obtain⟨x',y',rfl,M,m⟩:=h'.ex;obtain⟨-,g3,o3,c3,rfl⟩:=cB M;obtain⟨-,g4,o4,c4,rfl⟩:=cB m;obtain⟨k,hk⟩:=hE (w.heap.size);obtain⟨w1,s⟩:=hE (w.alloc (.cells [.slice (some ⟨g1,o1,none⟩) n c1,.slice (some ⟨g2,o2,none⟩) n c2].toArray 145));obtain⟨k3,t⟩:=hE (w1.heap.size);obtain⟨w2,z⟩:=hE (w1.alloc (.cells [.slice (some ⟨g3,o3,none⟩) n c3,.slice (some ⟨g4,o4,none⟩) n c4].toArray 145));obtain⟨A,r⟩:=hE (w2.heap.size);obtain⟨w3,C⟩:=hE (w2.alloc (.cells (RG.z 4).toArray 44));obtain⟨S,o⟩:=hE (w3.heap.size);obtain⟨w4,P⟩:=hE (w3.alloc (.cells (RG.z 4).toArray 44));have f:=O2 hk s t z r C;have g:=aM o P;have F:=mk5 (f.1.trans (g.1.mono f.1.size)) (f.2.1.below g.1) (f.2.2.1.below g.1) (f.2.2.2.below g.1) g.2;have h0:w.heap.size<=A/\A<S:=⟨by rw[<-r.out];exact XB (aM hk s).1.size (aM t z).1.size,by rw[<-o.out];exact f.2.2.2.1⟩
 have Y:Hid (∀ {p q:Nat->Nat}{x y:Xu},(∀i,i<n->p i<N/\q i<N)->SLq Q w x n p->SLq Q w y n q->∀W,kZ w4 W->XH prog 87 #[x,y] W (rZ W λe w'=>e=nv (prS N p q n))):=λ{p q x y} hp h1 h2 W j=>by
  have b:=F.1.trans (j.mono F.1.size);exact BP O (Q:=Q) n oM p q (λi l=>(hp i l).1) (λi l=>(hp i l).2) x y W (h1.keep (Kq.of_below b)) (h2.keep (Kq.of_below b))
 have U:=Y (λi l=>⟨(B i l).1,(B i l).2.2.2⟩) hx m;have C2:=Y (λi l=>⟨(B i l).2.1,(B i l).2.2.1⟩) hy M;have V:=Y (λi l=>⟨(B i l).2.1,(B i l).2.2.2⟩) hy m;have D:=mM O _ _ (Bp O.pos a d n) (Bp O.pos b c n);generalize prS N a d n=p1 at U D⊢;generalize prS N b c n=p2 at C2 D⊢;generalize prS N b d n=T at V⊢;generalize sPl N p1 p2=H at D⊢;obtain⟨v1,L⟩:=hE (nv p1);obtain⟨v2,G⟩:=hE (nv p2);obtain⟨v3,E⟩:=hE (nv T);obtain⟨v4,K⟩:=hE (nv H);rw[L.out]at U;rw[G.out]at C2;rw[E.out]at V;rw[L.out,G.out,K.out]at D;go_enter func84,ntmps84;go_wp2_with (first|(refine alR 2 hk s ?_)|(refine alR 3 t z ?_)|(refine alR 4 r C ?_)|(refine alR 5 o P ?_)|fail)
 refine AW.begin 16 15 ?_;refine AW.va 0 (jZ k) ?_;refine AW.ce 1 uSl (λW j=>(F.2.1.below j).2.1 0 _ rfl) ?_;refine AW.va 2 (oZ k3 1) ?_;refine AW.ce 3 uSl (λW j=>(F.2.2.1.below j).2.1 1 _ rfl) ?_;refine AW.va 5 (oZ k 1) ?_;refine AW.ce 6 uSl (λW j=>(F.2.1.below j).2.1 1 _ rfl) ?_;refine AW.va 7 (jZ k3) ?_;refine AW.ce 8 uSl (λW j=>(F.2.2.1.below j).2.1 0 _ rfl) ?_;refine AW.va 11 (oZ k 1) ?_;refine AW.ce 12 uSl (λW j=>(F.2.1.below j).2.1 1 _ rfl) ?_;refine AW.va 13 (oZ k3 1) ?_;refine AW.ce 14 uSl (λW j=>(F.2.2.1.below j).2.1 1 _ rfl) ?_;refine AW.gi 4 (λj=>U _ j) λW1 _=>?_
 refine AW.gi 9 (λj=>C2 _ j) λW2 _=>?_
 refine AW.gi 10 (λ_=>D _) λW3 _=>?_
 refine AW.gi 15 (λj=>V _ j) λZ _=>?_
 refine AW.f2 (us:=wn H) (us':=wn T) K E (aI _) i40 (aI _) i40 (λj=>?_);obtain⟨W5,I⟩:=hE (Z.setCells A 0 (wn H));obtain⟨X,J⟩:=hE (W5.setCells S 0 (wn T));have R:Hid (Z.there A 0 4/\W5.there S 0 4/\Row X A (wn H)/\Row X S (wn T)/\kZ w X):=by
  have r4:=F.2.2.2.1.below j;have r5:Row (Z.setCells A 0 (wn H)) S _:=aP (F.2.2.2.2.below j) oM;rw[<-J.out,<-I.out];exact⟨r4.2.2,r5.2.2,aP (r4.put rfl) oM,r5.put rfl,RG.below_setCells oM _ _ _ (RG.below_setCells oM _ _ _ (F.1.trans (j.mono F.1.size)))⟩
 rw[I.out,J.out];refine⟨R.1,R.2.1,?_⟩;go_wp2_with fail
 refine XE (qR 4 5 44 44 rfl R.2.2.1 R.2.2.2.1 rfl rfl u40 i40 u40 i40) rfl ?_;exact⟨_,rfl,R.2.2.2.2,rfl⟩
theorem Rm(O:Ord N)(p x:Nat)(Q:p<N)(hx:x<N)(i:Int)(b n:Nat)(H:n≠b)(w:Xs)(A:Row w b (wn p))(L:Row w n (wn x)):
 XH prog 140 #[iZ i,jZ b,jZ n] w (Ret λe w'=>Kz (·≠b) w w'/\(Row w' b (wn (sTi N p x))/\Row w' n (wn x))/\e=nv p):=by
 have G:=gV O p x Q hx;generalize sTi N p x=q at G⊢;obtain⟨W,k⟩:=hE (nv p);obtain⟨U,u⟩:=hE (nv x);obtain⟨V,r⟩:=hE (nv q);rw[k.out,u.out,r.out]at G;obtain⟨a,g⟩:=hE (w.heap.size);obtain⟨M,s⟩:=hE (w.alloc (.cells (RG.z 4).toArray 44));obtain⟨E,f⟩:=hE (M.heap.size);obtain⟨J,y⟩:=hE (M.alloc (.cells (RG.z 4).toArray 44));obtain⟨m,t⟩:=hE (J.setCells E 0 (wn p));have v:=aM g s;have B:=aM f y;have D:=v.1.trans (B.1.mono v.1.size);have S:=A.1;have R:=L.1;have X:=v.2.1;have Y:=g.out;have Z:=f.out;have d:Hid (kZ w m/\Row m b (wn p)/\Row m n (wn x)/\Row m a (RG.z 4)/\Row m E (wn p)/\J.there E 0 4):=by
  rw[<-t.out];exact⟨RG.below_setCells oM _ _ _ D,aP (A.below D) oM,aP (L.below D) oM,aP (v.2.below B.1) oM,B.2.put rfl,B.2.2.2⟩
 have P:=mk1 (A.below D);go_enter func140,ntmps140;go_wp2_with (first|(refine alR 4 g s ?_)|(refine ldR 1 (A.below v.1).2.1 k u40 i40 ?_)|(refine alR 5 f y ?_)|(refine stR 5 t k d.2.2.2.2.2 i40 (aI p) ?_)|(refine ldR 1 d.2.1.2.1 k u40 i40 ?_)|(refine ldR 2 d.2.2.1.2.1 u u40 i40 ?_)|fail)
 refine(G m).mono ?_;rintro e I ⟨T,rfl,c,rfl⟩;obtain⟨F,o⟩:=hE (I.setCells b 0 (wn q));obtain⟨C,z⟩:=hE (F.setCells a 0 (wn p));have l:=mk5 (d.1.trans (c.mono d.1.size)) (d.2.1.below c) (d.2.2.1.below c) (d.2.2.2.1.below c) (d.2.2.2.2.1.below c);have j:Hid (I.there b 0 4/\Row F E (wn p)/\F.there a 0 4/\Kz (·≠b) w C/\Row C b (wn q)/\Row C n (wn x)/\Row C a (wn p)):=by
  have K:Row (I.setCells b 0 (wn q)) a _:=aP l.2.2.2.1 oM;rw[<-z.out,<-o.out];exact⟨l.2.1.2.2,aP l.2.2.2.2 oM,K.2.2,((Kz.of l.1).set (X0 (by simp))).set (X9 oM),aP (l.2.1.put rfl) oM,aP (aP l.2.2.1 H) oM,K.put rfl⟩
 go_wp2_with (first|(refine stR 1 o r j.1 i40 (aI q) ?_)|(refine ldR 5 j.2.1.2.1 k u40 i40 ?_)|(refine stR 4 z k j.2.2.1 i40 (aI p) ?_)|fail)
 refine XE (aF 4 44 rfl j.2.2.2.2.2.2 rfl u40 i40) rfl ?_;exact⟨_,rfl,j.2.2.2.1,⟨j.2.2.2.2.1,j.2.2.2.2.2.1⟩,rfl⟩
def pwN(N x:Nat):Nat->Nat
 | 0=>1
 | i+1=>sTi N (pwN N x i) x
theorem xX(O:Ord N)(x:Nat):∀i,pwN N x i<N
 | 0=>by show 1<N;have:=O.n2;omega
 | _+1=>Y9 _ O.pos
theorem FU[NeZero N](k:1<N)(x:Fin N):∀i,(pwF x i).val=pwN N x.val i
 | 0=>XX k
 | i+1=>by
  show(pwF x i*x).val=_;rw[eX,FU k x i];rfl
theorem Kz.bw{Z:Nat->Prop}{w d c:Xs}(h:kZ w d)(k:Kz Z d c)(e:∀g,g<w.heap.size->Z g):kZ w c:=⟨k.os.trans h.os,k.tape.trans h.tape,k.output.trans h.output,XB h.size k.size,λg b=>(k.block g (Xz b h.size) (e g b)).trans (h.block g b)⟩
theorem FY(O:Ord N)(x:Nat)(hx:x<N)(n:Nat)(L:n<=512)(w:Xs):
 XH prog 83 #[nv x,iZ n] w (rZ w λe w'=>SLq (w.heap.size<=·) w' e n (pwN N x)/\∃g c,e=sZ g n c):=by
 obtain⟨H,p⟩:=hE (nv x);obtain⟨v1,q⟩:=hE (nv 1);have S:Hid (Gives 15 #[uZ 1] v1):=by rw[<-q.out];exact Kh
 obtain⟨s,b⟩:=hE (w.heap.size);obtain⟨B,l⟩:=hE (w.alloc (.cells (wn x).toArray 44));have C:Hid ((Yl 44 H).run prog w=.ok (jZ s) B):=by rw[<-p.out,<-l.out,<-b.out];exact boxS x w
 have a:=aM b l;have Q:∀(E:Fn) (first cap:Array Xu) (w:Xs),(yAW E first cap).run prog w=.ok (.func E first cap) w:=λ_ _ _ _=>rfl
 rw[p.out];go_enter func83,ntmps83;go_wp2_with (first|(refine aG (u:=H) (v:=jZ s) (w':=B) rfl _ (.tmp 0) rfl ?_ ?_ ?_;rfl;exact C.out)|fail)
 refine(S B).mono ?_;rintro e G ⟨U,rfl,k,rfl⟩;obtain⟨t,f⟩:=hE (G.heap.size);obtain⟨P,m⟩:=hE (G.alloc (.cells (RG.z 4).toArray 44));obtain⟨T,r⟩:=hE (P.setCells t 0 (wn 1));have y:=Gm f m r rfl;have D:=a.2.below k;have d:=D.1;rw[f.out]at d;have A:=a.1.trans (k.mono a.1.size);have j:=mk4 (A.trans (y.2.1.mono A.size)) (D.below y.2.1) y.2.2 d;have s4:=j.2.2.1.1;have HL:=mk1 (AE n L 140 #[jZ t,jZ s] (λ_ _=>kR) (pwN N x) (·≠t) (λi W=>Row W t (wn (pwN N x i))/\Row W s (wn x)) T (λg z=>oM) (λW F=>⟨j.2.2.1.below F,j.2.1.below F⟩) (λi W K o vs Z h=>⟨aP h.1 oM,aP h.2 oM⟩) λi W X _ h=>Rm O _ x (xX O x i) hx _ t s oM W h.1 h.2);clear A D k d s4;go_wp2_with (first|(refine alR 5 f m ?_)|(refine stR 5 r q y.1 i40 (aI 1) ?_)|fail)
 refine HL.mono ?_;rintro e V ⟨v,rfl,M,-,R,J⟩;have Y:=b.out;have I:=mk3 (Kz.bw j.1 M λg z=>by have:=j.2.2.2;omega) (R.mono λg z=>XB j.1.size z) J;go_wp2;go_ret;exact⟨_,rfl,I.out⟩
theorem PC(O:Ord N)(x:Nat)(hx:x<N)(n:Nat)(b:n<=512)(w:Xs):
 XH prog 83 #[nv x,iZ n] w (rZ w λe w'=>SLq (w.heap.size<=·) w' e n (pwN N x)):=
 (FY O x hx n b w).mono λ_ _ ⟨v,h,k,c,_⟩=>⟨v,h,k,c⟩
theorem uLs:(prog.underlying 148).map (·.isRow)=some false:=kR
theorem uSm:(prog.underlying 82).map (·.isRow)=some false:=kR
theorem QD(O:Ord N)(l:List (Nat × Bs))(s:TOk N l)(f:l.length<=512)(z:Nat)(D:z<N)(i n u b m q c1 j r o c2:Nat)(v0 v2 x:Xu)(I:i<q)(J:i<o)(w:Xs)(E:b<w.heap.size)(a:j<w.heap.size)(C:Row w n [v0,.slice (some ⟨b,m,none⟩) q c1,v2])(F:Row w u [.slice (some ⟨j,r,none⟩) o c2])(v:w.cell? ⟨b,m+1*i,none⟩=some x)(hx:Sm 0 w x l)(L:w.rangeAt j (r+4*i) (wn z)):
 XH prog 148 #[iZ i,jZ n,jZ u] w (rZ w λe w'=>Sm w.heap.size w' e (l.map (tmT N z))):=by
 obtain⟨M,d⟩:=hE (nv z);have t:=mk1 (λ(W:Xs) (k:kZ w W)=>eH O D 0 x l f s.szm s.lt W (hx.grow k));rw[d.out]at t;obtain⟨y,B⟩:x.oneCell'=true/\∃g c,x=sZ g l.length c:=by
  obtain⟨g,c,rfl,-⟩:=hx;exact⟨rfl,_,_,rfl⟩
 go_enter func148,ntmps148;go_wp2_with fail
 refine AW.begin 10 10 ?_;refine AW.va 0 (oZ n 1) ?_;refine AW.ce 1 uLs (λW k=>(C.below k).2.1 1 _ rfl) ?_;refine AW.mv 2 ?_;refine AW.iv 3 (atS b m q c1 i I) ?_;refine AW.ce 4 uSm (λW k=>by rw[k.cell (p:=⟨b,m+1*i,none⟩) E];exact v) ?_;refine AW.ce 5 uSl (λW k=>(F.below k).2.1 0 _ rfl) ?_;refine AW.mv 6 ?_;refine AW.iv 7 (mC j r o c2 i J) ?_;refine AW.ro 8 (λW k=>RG.range_below L k a) d rSc nSc ?_;refine AW.ca 9 (λk=>t _ k) (λe w' h=>h.1) ?_;rintro e G ⟨A,H⟩;simp only[XK,Xt,Xv,Xw];refine AW.nx 10 e ?_;refine AW.dn λk=>?_
 have K:=mk2 k (show Sm w.heap.size G e _ from H);go_wp2;go_ret;exact⟨_,rfl,K.out⟩
theorem QQ(O:Ord N)(z q y t:Nat)(T:z<N)(Z:q<N)(V:y<N)(Y:t<N)(i H M K L u G B c1 v C A c2:Nat)(h1:i<B)(h2:i<A)(w:Xs)(U:u<w.heap.size)(Q:v<w.heap.size)(S:Row w H (wn z))(X:Row w M [.slice (some ⟨u,G,none⟩) B c1])(R3:Row w K (wn q))(R4:Row w L [.slice (some ⟨v,C,none⟩) A c2])(P:w.rangeAt u (G+4*i) (wn y))(r2:w.rangeAt v (C+4*i) (wn t)):
 XH prog 138 #[iZ i,jZ H,jZ M,jZ K,jZ L] w (rZ w λe w'=>e=nv (sPl N (sTi N z y) (sTi N q t))):=by
 obtain⟨k,E⟩:=hE (w.heap.size);obtain⟨w1,d⟩:=hE (w.alloc (.cells (RG.z 4).toArray 44));have f:=aM E d;have x:=gV O z y T V;have F:=gV O q t Z Y;have J:sTi N z y<N:=Y9 _ O.pos;have I:sTi N q t<N:=Y9 _ O.pos;generalize sTi N z y=a at x J⊢;generalize sTi N q t=b at F I⊢;have D:=mM O a b J I;generalize sPl N a b=r at D⊢;obtain⟨vz,m⟩:=hE (nv z);obtain⟨vq,j⟩:=hE (nv q);obtain⟨vy,s⟩:=hE (nv y);obtain⟨vt,o⟩:=hE (nv t);obtain⟨va,n⟩:=hE (nv a);obtain⟨vb,g⟩:=hE (nv b);obtain⟨vr,l⟩:=hE (nv r);rw[m.out,s.out,n.out]at x;rw[j.out,o.out,g.out]at F;rw[n.out,g.out,l.out]at D;go_enter func138,ntmps138;go_wp2_with (first|(refine alR 6 E d ?_)|fail)
 refine AW.begin 13 13 ?_;refine AW.ro 0 (λW c=>((S.below f.1).below c).2.1) m rSc nSc ?_;refine AW.ce 1 uSl (λW c=>((X.below f.1).below c).2.1 0 _ rfl) ?_;refine AW.mv 2 ?_;refine AW.iv 3 (mC u G B c1 i h1) ?_;refine AW.ro 4 (λW c=>row_of f.1 U P c) s rSc nSc ?_;refine AW.ro 6 (λW c=>((R3.below f.1).below c).2.1) j rSc nSc ?_;refine AW.ce 7 uSl (λW c=>((R4.below f.1).below c).2.1 0 _ rfl) ?_;refine AW.mv 8 ?_;refine AW.iv 9 (mC v C A c2 i h2) ?_;refine AW.ro 10 (λW c=>row_of f.1 Q r2 c) o rSc nSc ?_;refine AW.gi 5 (λ_=>x _) λW2 _=>?_
 refine AW.gi 11 (λ_=>F _) λW3 _=>?_
 refine AW.gi 12 (λ_=>D _) λW4 _=>?_
 refine AW.fi (us:=wn r) l (aI r) i40 (λc=>?_);obtain⟨W5,p⟩:=hE (W4.setCells k 0 (wn r));have R:=tC E d c p;rw[p.out];refine⟨R.1,?_⟩;go_wp2_with fail
 refine XE (aF 6 44 rfl R.2.2 rfl u40 i40) rfl ?_;exact⟨_,rfl,R.2.1,rfl⟩
end
namespace RG
variable {P:YG}{ops:Array Yo}{Q:yAL->Act->Xs->Prop}{w:Xs}{a0:Act}{L:Array Bool}{F:Flow}{m:Nat}
def Fr(a k:Act)(d:Option Zs):Prop:=∃v,k.tmps=(a.put d v).tmps
theorem MZ{o:Yo}{a:Act}{K:Act->Xs->Prop}:∀ {r:Result Next},o.upon P a K Q r->o.upon P a (λb w'=>K b w'/\Fr a b o.dst) Q r
 | .ok (.value v) _,h=>⟨h,v,rfl⟩
 | .ok .skip _,h=>⟨h,Zp,rfl⟩
 | .ok (.defer d) _,h=>⟨h,Zp,by cases o.dst<;>rfl⟩
 | .ok (.enter f args) _,h=>Calls.mono h λe w' k=>by
  cases e with
  | returned v=>exact⟨k,v,rfl⟩
  | panicked c=>exact k
  | outgrown=>exact k
 | .ok (.row row args) _,h=>Rows.mono h λv w' k=>⟨k,v,rfl⟩
 | .halt (.panic v) _,h=>h
 | .halt (.exit _) _,h=>h.elim
theorem MS{i:Nat}{o:Yo}{a:Act}{K:Act->Xs->Prop}(ho:ops[i]? = some o)(h:wpOp P ops Q i K a w):wpOp P ops Q i (λk w'=>K k w'/\Fr a k o.dst) a w:=by
 unfold wpOp at *;rw[ho]at h⊢;dsimp only at h⊢;split
 ·rename_i hw
  rw[yES hw]at h;rcases h with h|h
  ·exact X9 (MZ h)
  ·exact X0 h
 ·rename_i hw
  rw[yET hw]at h;exact⟨h,Zp,rfl⟩
theorem Ja{i:Nat}{o:Yo}{a:Act}{K:Act->Xs->Prop}{v:Xu}{e:Xs}(ho:ops[i]? = some o)(b:o.guard=none)(c:(Yb a.eval o).run P w=.ok (.value v) e)(h:wpOp P ops Q i K a w):wpOp P ops Q i (λk w'=>K k w'/\k=a.put o.dst v) a w:=by
 unfold wpOp at *;rw[ho]at h⊢;dsimp only at h⊢;have d:YS o (yielded ops a.tmps)=true:=by
  unfold YS;rw[b]
 rw[yES d]at h⊢;rcases h with h|h
 ·unfold YV at h⊢;rw[c]at h⊢;exact X9 ⟨h,rfl⟩
 ·exact X0 h
def rU(k:Array Yo)(i:Nat):Bool:=match k[i]? with
 | some o=>match o.op with | .alloc _=>true|_=>false
 | none=>false
def Sep(k:Array Yo)(L:Array Bool)(a:Act):Prop:=∀i j di dj,on L i=true->on L j=true->i≠j->rU k i=true->rU k j=true->aV k i=some di->aV k j=some dj->a.tmps[di]?≠a.tmps[dj]?
def Als(P:YG)(F:Flow)(b:Array Yo)(n:Nat):Prop:=∀i o,i<n->b[i]? = some o->rU b i=true->o.guard=none/\F.kill i=[]/\(∀(a:Act) w,∃c,(Yb a.eval o).run P w=.ok (.value (jZ w.heap.size)) c)/\∀v w,F.R i v w->∃k,v=jZ k/\k<w.heap.size
theorem kK{a:Act}{d e:Zs}{v:Xu}(h:d≠e):(a.put (some d) v).tmps[e]? = a.tmps[e]?:=by
 unfold XK;dsimp only;rw[Zv,yET h]
theorem stepS{k:Nat}{o:Yo}{a:Act}(R:RegF P Q F ops a0 m)(X:Als P F ops m)(C:k<m)(G:∀i,on L i=true->i<m)(ho:ops[k]? = some o)(S:on L k=false)(H:∀e∈o.after,YT .any e=true->on L e.on=true)(h:InvF F ops a0 L a w)(U:Sep ops L a):
 wpOp P ops Q k (λJ w'=>InvF F ops a0 (L.setIfInBounds k true) J w'/\Sep ops (L.setIfInBounds k true) J) a w:=by
 have W:=FM R C G ho S H h;have T:=(Array.getElem?_eq_some_iff.1 ho).1;have M:k<L.size:=by rw[h.size];exact T
 have D:=fM ho;have c:∀i,on (L.setIfInBounds k true) i=true->i≠k->on L i=true:=λi g A=>by
  rw[eD M]at g;rcases Z1 _ _ ▸ g with g|g
  ·exact g
  ·exact absurd (by simpa using g:k=i).symm A
 have d:∀i di s,i≠k->aV ops i=some di->o.dst=some s->s≠di:=λi di s A g hk e=>by
  subst e;exact A ((R.of ho).2 s hk |>.2 i g)
 cases B:rU ops k with
 | false =>
  refine yCa (λJ w' hh=>⟨hh.1,λi j di dj g I f l u b p=>?_⟩) (MS ho W);have r:i≠k:=by rintro rfl;rw[B]at l;cases l
  have t:j≠k:=by rintro rfl;rw[B]at u;cases u
  have n:=U i j di dj (c i g r) (c j I t) f l u b p;obtain⟨v,hv⟩:=hh.2;rw[hv];cases hd:o.dst with
  | none=>exact n
  | some s=>rw[kK (d i di s r b hd),kK (d j dj s t p hd)];exact n
 | true =>
  obtain⟨Y,-,E,-⟩:=X k o C ho B;obtain⟨w1,hr⟩:=E a w;obtain⟨V,O,N⟩:=h.all;have y:∀i di,i≠k->on L i=true->rU ops i=true->aV ops i=some di->a.tmps[di]?≠some (jZ w.heap.size):=λi di r g l b e=>by
   have K:i<ops.size:=by rw[<-h.size];exact AB g
   obtain⟨-,z,-,Z⟩:=X i _ (G i g) (X4 K) l;obtain⟨q,hq,h0⟩:=Z (V i) w (N i g λx hx=>by rw[z]at hx;cases hx);rw[O i di g b,hq]at e;injection e with e
   injection e with e
   injection e with e
   injection e with e
   omega
  refine yCa (λJ w' hh=>⟨hh.1,λi j di dj g I f l u b p=>?_⟩) (Ja ho Y hr W);rw[hh.2];have z:∀s,o.dst=some s->(a.put o.dst (jZ w.heap.size)).tmps[s]? = some (jZ w.heap.size):=λs hd=>by
   rw[hd];unfold XK;dsimp only;rw[Zv,yES rfl,yES (by rw[h.sz];exact((R.of ho).2 s hd).1)]
  by_cases r:i=k
  ·subst r;have hd:o.dst=some di:=by rw[<-D];exact b
   rw[z di hd,hd,kK (d j dj di (yBb f) p hd)];exact(y j dj (yBb f) (c j I (yBb f)) u p).symm
  ·by_cases t:j=k
   ·subst t;have hd:o.dst=some dj:=by rw[<-D];exact p
    rw[z dj hd,hd,kK (d i di dj f b hd)];exact y i di f (c i g f) l b
   ·have n:=U i j di dj (c i g r) (c j I t) f l u b p;cases hd:o.dst with
    | none=>exact n
    | some s=>rw[kK (d i di s r b hd),kK (d j dj s t p hd)];exact n
structure Al1(P:YG)(G:Gw)(ops:Array Yo)(i:Nat):Prop where
 o:∃o,ops[i]? = some o/\o.guard=none/\(∀(a:Act) w,∃w1,(Yb a.eval o).run P w=.ok (.value (jZ w.heap.size)) w1)
 r:∀v w,G.R i v w->∃k,v=jZ k/\k<w.heap.size
def AlL(P:YG)(G:Gw)(k:Array Yo):List Nat->Prop
 | []=>True
 | i :: r=>Al1 P G k i/\AlL P G k r
theorem AlL.of{G:Gw}{i:Nat}:∀ {l:List Nat},AlL P G ops l->l.contains i=true->Al1 P G ops i
 | [],_,h=>by cases h
 | x :: r,hl,h=>by
  rw[List.contains_cons,Z1]at h;rcases h with h|h
  ·rw[show i=x by simpa using h];exact hl.1
  ·exact hl.2.of h
theorem Fo{G:Gw}{n:Nat}(l:List Nat)(h:AlL P G ops l)(f:(Yt n).all (λi=>!rU ops i || l.contains i)=true:=by kernel_rfl):Als P G.flow ops n:=λi o c ho j=>by
 have k:=List.all_eq_true.1 f i (List.mem_range.2 c);rw[j,Bool.not_true,Bool.false_or]at k;obtain⟨⟨m,d,g,b⟩,e⟩:=h.of k;obtain rfl:o=m:=XS.inj (ho.symm.trans d);exact⟨g,rfl,b,e⟩
theorem al1{G:Gw}{i:Nat}(cs:List Xu)(T:Yd)(e:∀v w,G.R i v w->∃k,v=jZ k/\k<w.heap.size)(ho:(ops[i]?.map (·.guard))=some none:=by kernel_rfl)(c:∀o,ops[i]? = some o->∀W,(cN [] o,(Yb (evo (evl [])) o).run P W)=(true,.ok (.value (jZ W.heap.size)) (W.alloc (.cells cs.toArray T))):=by(intro _ h _;cases h;kernel_rfl)):Al1 P G ops i:=by
 refine⟨?_,e⟩;cases h:ops[i]? with
 | none=>rw[h]at ho;cases ho
 | some o =>
  rw[h]at ho;refine⟨o,rfl,XS.inj ho,λa w=>?_⟩;have b:=c o h w;simp only[Ze.injEq]at b;exact⟨_,by rw[jE (a:=a) (evl []) [] b.1 (λt d=>by cases d)];exact b.2⟩
theorem Gw.tail3{id:Nat}(G:Gw)(n:Nat)(C:Als P G.flow ops n)(m:(decide (n<ops.size) && mZ ops n)=true)(x:P.follows .mixedOrders=true)(t:BQ ops a0.tmps.size=true)(h:iY P Q G.flow ops a0 0 (ops.toList.take n))(v:G.B w.drew)
 (E:∀(V:Nat->Xu) (w':Xs),(∀i,i<n->G.R i (V i) w')->G.B w'->(∀i j,i<n->j<n->i≠j->rU ops i=true->rU ops j=true->(aV ops i).isSome=true->(aV ops j).isSome=true->V i≠V j)->wpList P ops Q (ops.toList.drop n) (bY V (ops.toList.take n) 0 a0) w'):(Zd id ops true).wp P Q a0 w:=by
 rw[XO,decide_eq_true_eq]at m;refine yT G.flow n (Sep ops) m.1 m.2 x (Gw.reg t h) (λ_=>v) (λL h i j di dj d=>by rw[h]at d;cases d) (λk o L a w r s p A D z y=>stepS (Gw.reg t h) C r s p A D z y) λV w' r s p=>E V w' (λi d=>r i d rfl) (s 0 rfl) λi j d u l g q b c e=>?_
 obtain⟨L,a,B,f⟩:=p;obtain⟨di,b⟩:=YB.1 b;obtain⟨dj,c⟩:=YB.1 c;refine B i j di dj (f i d).1 (f j u).1 l g q b c ?_;rw[(f i d).2 di b,(f j u).2 dj c,e]
end RG
section
variable {N:Nat}
theorem SLq.from{B:Nat}{W W':Xs}{x:Xu}{n:Nat}{a:Nat->Nat}(h:B<=W.heap.size)(k:SLq (W.heap.size<=·) W' x n a):SLq (B<=·) W' x n a:=k.mono λg b=>XB h b
def pZ(B n:Nat)(a:Nat->Nat):S1:=⟨λv w=>SLq (B<=·) w v n a/\∃g c,v=sZ g n c,λ_ _ _ k h=>⟨h.1.keep (Kq.of_below k),h.2⟩⟩
theorem xM{Q:Nat->Prop}{W:Xs}{g k n c:Nat}{a:Nat->Nat}{u:Xu}{r:List Xu}(h:SLq Q W (sZ g n c) n a)(d:0<n)(R:Row W k (u :: r))(j:u≠uZ ((a 0%18446744073709551616:Nat):Int)):g≠k:=by
 rintro rfl;obtain⟨o,l,m,e,-,-,-,i⟩:=h;injection e with e
 injection e with e
 injection e with e1 e2
 subst e1 e2;have b:=i 0 d 0 _ rfl;have f:=R.2.1 0 u rfl;rw[f]at b;exact j (XS.inj b)
theorem qM{B g k n c:Nat}{W:Xs}{a:Nat->Nat}{vs:List Xu}(h:SLq (B<=·) W (sZ g n c) n a)(b:g≠k):SLq (B<=·) (W.setCells k 0 vs) (sZ g n c) n a:=by
 obtain⟨q,i,m,e,o,p,f,l⟩:=h;have e':=e;injection e with e
 injection e with e
 injection e with e1 e2
 subst e1;exact⟨g,i,m,e',o,p,by rw[setCells_size];exact f,λj d=>Yk (l j d) k 0 vs (X9 b)⟩
section
variable {P:YG}{ops:Array Yo}{rest:List Yo}{op:Yo}{a:Act}{w w':Xs}{Q:yAL->Act->Xs->Prop}{T:Yd}{y:yAf}{g o:Nat}{u:Xu}
theorem Np(t:Zs)(i:Hid (w.setCells g o [u]=w'))(th:w.there g o 1)(f:(P.info? T).map (·.size)=some 1)(hv:u.cells=#[u])(c:u.oneCell'=true)(h:wpList P ops Q rest (a.put op.dst Zp) w')(k:op.guard=none:=by rfl)(ho:op.op=.store T (.tmp t) y:=by rfl)(hx:a.eval (.tmp t)=oZ g o:=by rfl)(j:a.eval y=u:=by rfl):wpList P ops Q (op :: rest) a w:=
 ZH k λK d=>by
  have b:=yCb (P:=P) w g o T #[u] th f (by simp[c]);have e:storeVar T ⟨g,o,none⟩ u=storeVar T ⟨g,o,none⟩ (.agg #[u]):=by
   unfold storeVar;rw[hv];rfl
  rw[show(#[u]:Array Xu).toList=[u] from rfl,i.out]at b;unfold YV Yb;simp only[ho,hx,j,yA6,yAC,XT,Zj,Yu,e,b];exact d _ _ h
theorem inR{v:Xu}(t:Zs)(I:Sem Xu)(c:I.run P w=.ok v w')(h:wpList P ops Q rest (a.put op.dst v) w')(hd:op.dst=some t:=by rfl)(k:op.guard=none:=by rfl)(d:Yb a.eval op=I >>= λv=>pure (ZN v):=by kernel_rfl):wpList P ops Q (op :: rest) a w:=
 ZH k λK b=>by
  unfold YV;rw[d,XT,c];exact b _ _ h
end
theorem Vd(n:Nat)(w:Xs):(Yr 143 1 #[(0,nv n)]).run prog w=.ok (sZ w.heap.size 1 1) (w.alloc (.cells (wn n).toArray 44)):=kR
theorem iSl:(prog.info? 143).map (·.size)=some 1:=kR
theorem yA{B:Nat}{cs:List Xu}(v:Xu)(W:Xs)(h:(RG.pN B cs).p v W):∃k,v=jZ k/\k<W.heap.size:=by
 obtain⟨k,b,-,c⟩:=h;exact⟨k,b,c.1⟩
theorem TV(O:Ord N)(h2:2<N)(y z:Nat)(hy:y<N)(hz:z<N)(n:Nat)(hn:n<=512)(w:Xs)(R:∀x g W,Row W g (wn x)->XH prog 137 #[sZ g 1 1,iZ n] W (rZ W λe W'=>SLq (W.heap.size<=·) W' e n (λ_=>x))):
 XH prog 80 #[nv y,nv z,iZ n] w (rZ w λe w'=>∃l r,e=.tuple #[l,r]/\SLq (w.heap.size<=·) w' l n (λ_=>sMi N 0 z)/\SLq (w.heap.size<=·) w' r n (λi=>sPl N (sTi N z (pwN N y i)) (sTi N (sTi N z z) (pwN N 2 i)))):=by
 obtain⟨vy,h6⟩:=hE (nv y);obtain⟨vz,J⟩:=hE (nv z);obtain⟨k3,he⟩:=hE (w.heap.size);obtain⟨w1,h7⟩:=hE (w.alloc (.cells (wn y).toArray 44));obtain⟨k4,h5⟩:=hE (w1.heap.size);obtain⟨o,hg⟩:=hE (w1.alloc (.cells (wn z).toArray 44));have k0:Hid ((Yl 44 vy).run prog w=.ok (jZ k3) w1):=by rw[<-h6.out,<-h7.out,<-he.out];exact boxS y w
 have hs:Hid ((Yl 44 vz).run prog w1=.ok (jZ k4) o):=by rw[<-J.out,<-hg.out,<-h5.out];exact boxS z w1
 have F1:=aM he h7;have F2:=aM h5 hg;have R3:=F1.2.below F2.1;have b2:=F1.1.trans (F2.1.mono F1.1.size);rw[h6.out,J.out];have Q:=mk3 b2 R3 F2.2;clear b2 R3 F1 F2;go_enter func80,ntmps80;go_wp2_with (first|(refine aG (u:=vy) (v:=jZ k3) (w':=w1) rfl _ (.tmp 0) rfl ?_ ?_ ?_;rfl;exact k0.out)|(refine aG (u:=vz) (v:=jZ k4) (w':=o) rfl _ (.tmp 1) rfl ?_ ?_ ?_;rfl;exact hs.out)|fail)
 obtain⟨b,hb⟩:=hE (o.heap.size);have s:∀ {W},kZ o W->b<=W.heap.size:=λh=>hb.out ▸ h.size
 refine(gwL [pE (nv y),pE (iZ n),pZ b n (pwN N y),pE (nv 2),pE (iZ n),pZ b n (pwN N 2),pE (nv z),pE (nv z),pE (nv (sTi N z z)),RG.pN b [.slice none 0 0],RG.pN b [.slice none 0 0],RG.pN b (RG.z 4)] (λW=>kZ o W) (λW W' hb h=>h.trans (hb.mono h.size))).tail3 12 (Fo [9,10,11] ⟨al1 [.slice none 0 0] 143 yA,al1 [.slice none 0 0] 143 yA,al1 (RG.z 4) 44 yA,yEU⟩) kR kR kR ⟨
  gLo 3 (λW c=>(Q.2.1.below c).2.1) u40 i40,
  gO 2 (iZ n),
  eF 0 11 1 12 83 (λx y=>#[x,y]) (λx u W D F c=>by
   obtain rfl:x=nv y:=D;obtain rfl:u=iZ n:=F;exact(FY O y hy n hn W).mono λe W' ⟨v,f,h2,k,d⟩=>⟨v,f,h2,k.from (s c),d⟩),
  P5 15 #[uZ 2] (λW _=>rQ 2 oM W),
  gO 2 (iZ n),
  eF 3 14 4 15 83 (λx y=>#[x,y]) (λx u W D F c=>by
   obtain rfl:x=nv 2:=D;obtain rfl:u=iZ n:=F;exact(FY O 2 h2 n hn W).mono λe W' ⟨v,f,h2,k,d⟩=>⟨v,f,h2,k.from (s c),d⟩),
  gLo 4 (λW c=>(Q.2.2.below c).2.1) u40 i40,
  gLo 4 (λW c=>(Q.2.2.below c).2.1) u40 i40,
  gC2 6 17 7 18 (λW=>gV O z z hz hz W),
  tY [.slice none 0 0] 143 (λW W' h c=>⟨_,rfl,s c,h⟩),
  tY [.slice none 0 0] 143 (λW W' h c=>⟨_,rfl,s c,h⟩),
  tY (RG.z 4) 44 (λW W' h c=>⟨_,rfl,s c,h⟩),yEU⟩ ⟨rfl,rfl,rfl,Xx _,λ_ _=>rfl⟩ ?_
 intro V w3 hR c hD;obtain⟨S1,g1,c1,F⟩:=hR 2 dC;obtain⟨Z,g2,c2,e5⟩:=hR 5 dC;rw[F]at S1;rw[e5]at Z;have e8:V 8=nv (sTi N z z):=hR 8 dC;obtain⟨C,e9,l8,R8⟩:=hR 9 dC;obtain⟨E,G,l9,R9⟩:=hR 10 dC;obtain⟨k,I,k5,H⟩:=hR 11 dC;have d1:=hD 9 10 dC dC dC kR kR kR kR;have d2:=hD 9 11 dC dC dC kR kR kR kR;have d3:=hD 10 11 dC dC dC kR kR kR kR;dsimp only[bY,YH,ZQ,ZR];simp only[XK,Xt,Xv,Xw];rw[F,e5,e8,e9,G,I];rw[e9,G]at d1;rw[e9,I]at d2;rw[G,I]at d3;have n1:C≠E:=λe=>d1 (by rw[e])
 have n2:C≠k:=λe=>d2 (by rw[e])
 have n3:E≠k:=λe=>d3 (by rw[e])
 clear d1 d2 d3 hD hR F e5 e8 e9 G I;generalize V 0=s0;generalize V 1=s1;generalize V 3=s3;generalize V 4=s4;generalize V 6=s6;generalize V 7=s7;obtain⟨q,hq⟩:=hE (sTi N z z);obtain⟨k7,K⟩:=hE (nv q);rw[hq.out,K.out];obtain⟨L,a⟩:=hE (sZ g1 n c1);obtain⟨S,B⟩:=hE (sZ g2 n c2);have x1:0<n->(g1≠C/\g1≠E/\g1≠k)/\g2≠C/\g2≠E/\g2≠k:=λA=>⟨⟨xM S1 A R8 (by simp),xM S1 A R9 (by simp),xM S1 A H (by simp[pwN])⟩,xM Z A R8 (by simp),xM Z A R9 (by simp),xM Z A H (by simp[pwN])⟩
 obtain⟨U,p⟩:=hE (w3.setCells C 0 [L]);obtain⟨X,j⟩:=hE (U.setCells E 0 [S]);obtain⟨T,h9⟩:=hE (X.setCells k 0 (wn q));have hp:=hb.out;have q8:Row U C [L]:=by rw[<-p.out];exact R8.put rfl
 have q9:Row U E [.slice none 0 0]:=by rw[<-p.out];exact R9.other (yBb n1)
 have hc:Row U k (RG.z 4):=by rw[<-p.out];exact H.other (yBb n2)
 have u8:Row X C [L]:=by rw[<-j.out];exact q8.other n1
 have u9:Row X E [S]:=by rw[<-j.out];exact q9.put rfl
 have u10:Row X k (RG.z 4):=by rw[<-j.out];exact hc.other (yBb n3)
 have HT:Hid (w3.there C 0 1/\U.there E 0 1/\X.there k 0 (wn q).toArray.size):=⟨R8.2.2,q9.2.2,u10.2.2⟩
 have HV:Hid ((L.cells=#[L]/\L.oneCell'=true)/\S.cells=#[S]/\S.oneCell'=true):=by rw[<-a.out,<-B.out];exact⟨⟨rfl,rfl⟩,rfl,rfl⟩
 have t:Hid (kZ o T/\Row T C [L]/\Row T E [S]/\Row T k (wn q)/\(0<n->SLq (b<=·) T L n (pwN N y)/\SLq (b<=·) T S n (pwN N 2))):=by
  have Y:kZ o U:=by rw[<-p.out];exact RG.below_setCells oM _ _ _ c
  have d:kZ o X:=by rw[<-j.out];exact RG.below_setCells oM _ _ _ Y
  rw[<-h9.out];refine⟨RG.below_setCells oM _ _ _ d,u8.other n2,u9.other n3,u10.put rfl,λA=>?_⟩;rw[<-j.out,<-p.out];obtain⟨⟨M,a2,a3⟩,f,a5,P⟩:=x1 A;rw[<-a.out,<-B.out];exact⟨qM (qM (qM S1 M) a2) a3,qM (qM (qM Z f) a5) P⟩
 rw[a.out,B.out];clear x1 q8 q9 hc u8 u9 u10 c S1 Z R8 R9 H n1 n2 n3 l8 l9 k5 hp;refine Np (w:=w3) 8 p HT.1 iSl HV.1.1 HV.1.2 ?_;refine Np (w:=U) 9 j HT.2.1 iSl HV.2.1 HV.2.2 ?_;refine stR (w:=X) 10 h9 K HT.2.2 i40 (aI q) ?_;go_wp2_with (first|(refine ldR 4 (Q.2.2.below t.1).2.1 J u40 i40 ?_)|fail)
 have HO:=mk1 (Em O hz T);rw[J.out]at HO;refine HO.mono ?_;clear HO HT HV;rintro e w7 ⟨uu,rfl,Y,rfl⟩;obtain⟨m,hm⟩:=hE (sMi N 0 z);rw[hm.out];obtain⟨vo,hl⟩:=hE (nv m);obtain⟨hj,M⟩:=hE (w7.heap.size);obtain⟨w8,h8⟩:=hE (w7.alloc (.cells (wn m).toArray 44));have hr:Hid ((Yr 143 1 #[(0,vo)]).run prog w7=.ok (sZ hj 1 1) w8):=by rw[<-hl.out,<-h8.out,<-M.out];exact Vd m w7
 have F8:=aM M h8;have b68:=mk1 (Y.trans (F8.1.mono Y.size));rw[hl.out];have HR:=mk1 (R m hj w8 F8.2);clear Y R;go_wp2_with (first|(refine inR 22 (Yr 143 1 #[(0,vo)]) hr.out ?_)|fail)
 refine HR.mono ?_;clear HR;rintro e w9 ⟨lv,rfl,ha,hk⟩;have d:=b68.trans (ha.mono b68.size);have b9:=mk1 (Q.1.trans ((t.1.trans (d.mono t.1.size)).mono Q.1.size));have KZ:=mk6 ((Q.2.2.below t.1).below d) (t.2.1.below d) (t.2.2.2.1.below d) (t.2.2.1.below d) (λ(A:0<n)=>YP ((t.2.2.2.2 A).1.keep (Kq.of_below d)) ((t.2.2.2.2 A).2.keep (Kq.of_below d))) b9;have lq:q<N:=by rw[<-hq.out];exact Y9 _ O.pos
 have HL:=mk1 (jJ n hn 138 #[jZ k4,jZ C,jZ k,jZ E] (λ_ _=>kR) (λi=>sPl N (sTi N z (pwN N y i)) (sTi N q (pwN N 2 i))) w9 λi W hi f=>by
  obtain⟨T1,T2⟩:=KZ.2.2.2.2.1 oM;rw[<-a.out]at T1;rw[<-B.out]at T2;have Ra:=(KZ.1.below f)
  have Rb:=(KZ.2.1.below f)
  have Rc:=(KZ.2.2.1.below f)
  have Rd:=(KZ.2.2.2.1.below f)
  rw[<-a.out]at Rb;rw[<-B.out]at Rd;obtain⟨hu,P,hw,D,-,-,t1,f1⟩:=T1.keep (Kq.of_below f);obtain⟨ht,k2,k1,F,-,-,t2,f2⟩:=T2.keep (Kq.of_below f);rw[D]at Rb;rw[F]at Rd;exact QQ O z q (pwN N y i) (pwN N 2 i) hz lq (xX O y i) (xX O 2 i) i k4 C k E hu P n hw ht k2 n k1 hi hi W t1 t2 Ra Rb Rc Rd (f1 i hi) (f2 i hi))
 have ka:∀(fn:Fn) (first cap:Array Xu) (w:Xs),(yAW fn first cap).run prog w=.ok (.func fn first cap) w:=λ_ _ _ _=>rfl
 have hS:=mk1 (SLq.from (XB Q.1.size (XB t.1.size b68.size)) hk);clear hk ha d lq t;go_wp2_with fail
 refine HL.mono ?_;clear HL;rintro e k6 ⟨rv,rfl,D,P⟩;have KE:=mk3 (b9.trans (D.mono b9.size)) (hS.keep (Kq.of_below D)) (SLq.from b9.size P);clear hS P D KZ;go_wp2
 go_ret2
 rw[<-hm.out,<-hq.out]at KE;exact⟨_,rfl,KE.1,_,_,rfl,KE.2.1,KE.2.2⟩
end
section
variable {P:Nat}[NeZero P]{N:Nat}
theorem D4{P:YG}(w:Xs)(r sT A k:Yd)(b o d e:Nat)(a:YW)(c l s n:Nat)(cs:List Xu)
 (B:P.underlying r=some (.slice k)) (t:(P.info? k).map (·.size)=some s) (y:n=yAs c d) (x:cs.length=n*s)
 (f:∀j v,cs[j]? = some v->w.cell? (a.add j)=some v) (u:w.there b o cs.length) (C:∀v∈cs,v.oneCell'=true) :
 (yAy #[r,sT] A #[.slice (some ⟨b,o,none⟩) d e,.slice (some a) c l]).run P w=.ok (goInt n) (w.setCells b o cs):=by
 have g:=run_loadCells_list (P:=P) w a cs f;have q:=run_storeCells_cells (P:=P) b o cs 0 w (λj m=>by rw[yAi];exact(u j m).1) (λj m=>by rw[yAi];exact(u j m).2) C;rw[x]at g;cases p:P.info? k with
 | none=>simp[p]at t
 | some i =>
  have z:i.size=s:=by simpa[p]using t
  simp[yAy,yAw B,Builtin.lenOf,yBQ,sizeOf,typeInfo,p,z,<-y,g,q]
def cw(x i:Nat):Xu:=(wn x).getD (i%4) Zp
theorem SK(x i:Nat):(cw x i).oneCell'=true:=by
 unfold cw;have:i%4=0\/i%4=1\/i%4=2\/i%4=3:=oM;rcases this with h|h|h|h<;>rw[h]<;>rfl
structure Rs(g m n x:Nat)(w:Xs):Prop where
 lt:g<w.heap.size
 th:w.there g 0 (4*m)
 c:∀i,i<4*n->w.cell? ⟨g,i,none⟩=some (cw x i)
theorem Rs.copy{g m n k r sl sc dc x:Nat}{w:Xs}(h:Rs g m n x w)(u:k=yAs sl (m-n))(y:n<=m)(f:∀i,i<4*k->w.cell? ⟨r,i,none⟩=some (cw x i)):
 ∃w',(∀l,(yAy #[143,143] l #[.slice (some ⟨g,n*4,none⟩) (m-n) dc,sZ r sl sc]).run prog w=.ok (goInt k) w')/\Rs g m (n+k) x w'/\(∀B,B<=g->Below B w w'):=by
 have s:n+k<=m:=by have:yAs sl (m-n)<=m-n:=yCC _ _;omega
 obtain⟨cs,d⟩:∃cs,cs=(Yt (4*k)).map (cw x):=⟨_,rfl⟩
 have o:cs.length=4*k:=by rw[d,List.length_map,List.length_range]
 have c:∀j,j<4*k->cs[j]? = some (cw x j):=λj b=>by rw[d,Ys,List.getElem?_range b];rfl
 have q:w.there g (n*4) cs.length:=λj b=>by
  have:=h.th (n*4+j) oM;rwa[XD]at this
 refine⟨w.setCells g (n*4) cs,λl=>D4 w _ _ l 44 g (n*4) (m-n) dc (aZ r) sl sc 4 k cs uS4 i40 u oM (λj v b=>?_) q (λv hv=>?_),⟨by rw[setCells_size];exact h.lt,Y2 h.th _ _ _,λi z=>?_⟩,λB t=>RG.below_setCells t _ _ _ (XM _ _)⟩
 ·have e:j<4*k:=by have:=(XG.1 b).1;omega
  rw[c j e]at b;rw[Addr.add_mid,XD,f j e];exact b
 ·rw[d]at hv;obtain⟨i,-,rfl⟩:=Yw.1 hv;exact SK x i
 ·by_cases e:i<4*n
  ·rw[World.cell?_setCells_out g cs (n*4) w ⟨g,i,none⟩ (λ_ _=>X9 (by show i<n*4;omega))];exact h.c i e
  ·have b:i-n*4<cs.length:=oM;have p:=World.cell?_setCells_in g cs (n*4) w (λj b=>(q j b).1) (i-n*4) b;rw[show n*4+(i-n*4)=i by omega]at p;rw[p,<-XJ b,c _ oM];unfold cw;rw[show(i-n*4)%4=i%4 by omega]
theorem RQ(m:Nat)(b:m<=1000)(w:Xs):XH prog 208 #[uZ 1,uZ m] w λe w'=>e=.returned (.tuple #[uZ 0,uZ m])/\w'=w:=by
 have c:bits .and .u64 1 4294967295=1:=rfl;have a2:bits .and .u64 (m:Int) 4294967295=(m:Int):=by
  have h:=bits_and_u64_nat m 4294967295 oM oM;rw[show(4294967295:Nat)=2^32-1 from rfl,Nat.and_two_pow_sub_one_eq_mod,XX oM]at h;exact h
 have a0:bits .and .u64 0 4294967295=0:=rfl;have k:(m:Int)/4294967296=0:=oM;have d:Yn.wrap (m:Int)=(m:Int):=by rw[ZK];omega
 go_enter func208,ntmps208;go_wp2
 go_ret2
 exact⟨rfl,rfl⟩
theorem RP(m:Nat)(k:m<=1000)(w:Xs):XH prog 188 #[uZ 1,uZ m] w λe w'=>e=.returned (.tuple #[uZ 0,uZ m])/\w'=w:=by
 have h:=RQ m k w;go_enter func188,ntmps188;go_wp2_with fail
 refine h.mono ?_;rintro e w' ⟨rfl,rfl⟩;clear h;go_wp2
 go_ret2
 exact⟨rfl,rfl⟩
theorem Cj{P:YG}{k:Array Yo}{o:Yo}{a:Act}{w:Xs}{K:Act->Xs->Prop}{Q:yAL->Act->Xs->Prop}{E:Prop}(e:o.guard=none)(d s:yAf)(t b:Yd)
 (ho:o.op=.call { callee:=.builtin .copy,args:=#[d,s],argTypes:=#[t,b] }) (v u:Xu) (hd:a.eval d=v) (g:a.eval s=u)
 (c:Xu) (w':Xs) (f:(yAy #[t,b] o.type #[v,u]).run P w=.ok c w') (h:K (a.put o.dst c) w'):if YS o (yielded k a.tmps)=true then YV P o a w K Q else E:=by
 have c:YS o (yielded k a.tmps)=true:=by simp[YS,e]
 rw[yES c];exact Lib.wp_copy_run w d s t b ho v u hd g f h
theorem JU(x r m:Nat)(R:m<=512)(w:Xs)(hR:Row w r (wn x)):
 XH prog 137 #[.slice (some ⟨r,0,none⟩) 1 1,.int .i64 m] w (Ret λe w'=>Below w.heap.size w w'/\SLq (w.heap.size<=·) w' e m (λ_=>x)):=by
 have N:=RP m oM w;have X:¬(m:Int)<0:=oM;have Z:Yn.wrap (m:Int)=(m:Int):=by rw[ZK];omega
 have Y:¬(9223372036854775807:Int)<(m:Int):=oM;obtain⟨C0,u,D⟩:=CO uS4 iS4 m R;obtain⟨g,y⟩:=hE (w.heap.size);obtain⟨M,q⟩:=hE (w.alloc (.cells C0.toArray 44));have F:=aM y q;have E:Rs g m 0 x M:=⟨F.2.1,by have:=F.2.2.2;rwa[u]at this,λi G=>absurd G (ZV _)⟩
 have l:=hR.below F.1;have A:∀i,i<4->M.cell? ⟨r,i,none⟩=some (cw x i):=λi G=>by
  have O:i=0\/i=1\/i=2\/i=3:=oM;rcases O with rfl|rfl|rfl|rfl
  ·exact l.2.1 0 _ rfl
  ·exact l.2.1 1 _ rfl
  ·exact l.2.1 2 _ rfl
  ·exact l.2.1 3 _ rfl
 obtain⟨B,c,d,f⟩:=E.copy (k:=yAs 1 m) (r:=r) (sl:=1) (sc:=1) (dc:=m) (by rw[yBx]) (Zh _) (λi G=>A i (by have:yAs 1 m<=1:=yCK _ _;omega));rw[yBx,Nat.zero_mul]at c;rw[XD]at d;have L:Hid (Below w.heap.size w B/\Rs g m (yAs 1 m) x B):=⟨F.1.trans (f _ (yBp y.out)),d⟩
 have I:yAs 1 m<=m:=yCC _ _;have K:0<m->0<yAs 1 m:=λh=>by show 0<min 1 m;omega
 have b:=c 3;have p:=D w;rw[q.out,y.out]at p;generalize yAs 1 m=T at *;unfold goInt at b;clear E l hR A f d c F D u q;go_enter func137,ntmps137;go_wp2_with fail
 refine N.mono ?_;rintro e w' ⟨rfl,rfl⟩;clear N;go_wp2_with (at_builtin;refine Lib.wpList_copy_run _ rfl _ _ 143 143 rfl _ _ rfl rfl b ?_)
 clear b p;go_loopg [8] m (λgk s8 wr=>∃n:Nat,n<=m/\(0<m->0<n)/\m<=n+gk/\s8=.int .i64 n/\Hid (Below w'.heap.size w' wr/\Rs g m n x wr))
 case atStart=>exact⟨T,I,K,oM,rfl,L⟩
 case round =>
  clear L;obtain⟨n,C,U,W,rfl,o⟩:=hrel;by_cases H:n<m
  ·have z:(n:Int)<(m:Int):=oM;have V:0<yAs n (m-n):=by show 0<min n (m-n);omega
   have J:n+yAs n (m-n)<=m:=by show n+min n (m-n)<=m;omega
   have Q:yAs n (m-n)<=n:=yCK _ _;have s:Rs g m n x wr.drew:=⟨o.2.lt,o.2.th,o.2.c⟩
   obtain⟨B,c,d,f⟩:=s.copy (k:=yAs n (m-n)) (r:=g) (sl:=n) (sc:=m) (dc:=m-n) rfl C (λi G=>s.c i oM);have b:=c 3;have P:=DY g 0 m m n C;have a:=DX g 0 m m n H (Xx _);rw[XD]at a;have S:Hid (Below w'.heap.size w' B/\Rs g m (n+yAs n (m-n)) x B):=⟨o.out.1.drew.trans (f _ (yBp y.out)),d⟩
   generalize yAs n (m-n)=k at *;unfold goInt at b;clear c d f s o;go_wp2_with fail
   go_region_law (refine Cj rfl (.tmp 41) (.tmp 44) 143 143 rfl (.slice (some ⟨g,n*4,none⟩) (m-n) (m-n)) (.slice (some ⟨g,0,none⟩) n m) (by simp[yDh,XK]) (by simp[yDh,XK]) _ _ b ?_)
   go_wp2;go_roundg (gk-1)
   case measure=>omega
   case rel=>exact⟨n+k,J,λ_=>oM,oM,congrArg (Value.int Yh) (show Yh.wrap ((n:Int)+(k:Int))=((n+k:Nat):Int) by rw[Zc];omega),S⟩
  ·have z:¬(n:Int)<(m:Int):=oM;obtain rfl:n=m:=oM;have a:Hid (Below w'.heap.size w' wr/\SLq (w'.heap.size<=·) wr (.slice (some ⟨g,0,none⟩) n n) n (λ_=>x)):=⟨o.1,g,0,n,rfl,Xx _,yBp y.out,o.2.lt,λj J t v s=>by
    have O:t<4:=(XG.1 s).1;rw[XD,o.2.c (4*j+t) oM];unfold cw;rw[show(4*j+t)%4=t by omega,List.getD_eq_getElem?_getD,s];rfl⟩
   clear o;go_wp2;go_ret;exact⟨_,rfl,a.out⟩
theorem FQ(O:Ord N)(d:2<N)(y z:Nat)(c:y<N)(b:z<N)(n:Nat)(k:n<=512)(w:Xs):
 XH prog 80 #[nv y,nv z,iZ n] w (rZ w λe w'=>∃l r,e=.tuple #[l,r]/\SLq (w.heap.size<=·) w' l n (λ_=>sMi N 0 z)/\SLq (w.heap.size<=·) w' r n (λi=>sPl N (sTi N z (pwN N y i)) (sTi N (sTi N z z) (pwN N 2 i)))):=
 TV O d y z c b n k w λx g W hR=>JU x g n k W hR
def qD(N y:Nat)(H:Nat->List (Nat × Bs))(i:Nat):List (Nat × Bs):=(H i).map (tmT N (pwN N (sIn N y) i))
theorem Jj(O:Ord N){Q:Nat->Prop}(n:Nat)(k8:0<n)(hn:n<=64)(G H:Nat->List (Nat × Bs))(U:List (Nat × Bs))(hH:∀i,i<n->TOk N (H i)/\(H i).length<=512)(hU:TOk N U)(hw:U.length<=512)(y z:Nat)(hy:y<N)(hz:z<N)(v:Xu)(w:Xs)(hQ:∀g,w.heap.size<=g->Q g)(h0:GRq Q w v n G H U):
 XH prog 91 #[v,nv y,nv z] w (rZ w λe w'=>GRq Q w' e n G (qD N y H) (U.map (tmT N z))):=by
 obtain⟨vg,vh,vu,rfl,h3,h4,h5⟩:=h0.ex;obtain⟨I,J,C,eg⟩:∃g o c,vg=.slice (some ⟨g,o,none⟩) n c:=by obtain⟨g,o,c,h,-⟩:=h3;exact⟨g,o,c,h⟩
 subst eg;have ka:vu.oneCell'=true:=h5.one.2;obtain⟨K,M,ch,rfl,kb,kc,hl,hr⟩:=h4;obtain⟨L,A⟩:=hE (sIn N y);have k3:L<N:=by rw[<-A.out];exact Y9 _ O.pos
 have HI:=mk1 (λW=>wH O y hy W);rw[A.out]at HI;obtain⟨vy,hj⟩:=hE (nv y);obtain⟨vz,B⟩:=hE (nv z);obtain⟨k,hk⟩:=hE (w.heap.size);obtain⟨w1,hm⟩:=hE (w.alloc (.cells [.slice (some ⟨I,J,none⟩) n C,.slice (some ⟨K,M,none⟩) n ch,vu].toArray 150));obtain⟨k4,hc⟩:=hE (w1.heap.size);obtain⟨w2,ht⟩:=hE (w1.alloc (.cells (wn y).toArray 44));obtain⟨k5,h8⟩:=hE (w2.heap.size);obtain⟨w3,h7⟩:=hE (w2.alloc (.cells (wn z).toArray 44));obtain⟨k6,T⟩:=hE (w3.heap.size);obtain⟨l,hu⟩:=hE (w3.alloc (.cells [.slice none 0 0,.slice none 0 0,.slice none 0 0].toArray 150));have f:=O2 hk hm hc ht h8 h7;have g6:=aM T hu;have F:=mk5 (f.1.trans (g6.1.mono f.1.size)) (f.2.1.below g6.1) (f.2.2.1.below g6.1) (f.2.2.2.below g6.1) g6.2;have Z:w.heap.size<=k6:=by rw[<-T.out];exact f.1.size
 obtain⟨v0,hs⟩:=hE (X6 #[.slice (some ⟨I,J,none⟩) n C,.slice (some ⟨K,M,none⟩) n ch,vu]);have B0:Hid ((Yl 150 v0).run prog w=.ok (jZ k) w1):=by rw[<-hs.out,<-hm.out,<-hk.out];exact Dl _ _ _ _
 have B1:Hid ((Yl 44 vy).run prog w1=.ok (jZ k4) w2):=by rw[<-hj.out,<-ht.out,<-hc.out];exact boxS y w1
 have B2:Hid ((Yl 44 vz).run prog w2=.ok (jZ k5) w3):=by rw[<-B.out,<-h7.out,<-h8.out];exact boxS z w2
 rw[hj.out,B.out,hs.out];have HT:=mk2 hH (λ(W:Xs) (d:kZ w W)=>eH O hz 0 vu U hw hU.szm hU.lt W (h5.sm.grow d));rw[B.out]at HT;have Y:=mk2 hr hl;have HK:=mk3 h3 hQ A;clear f g6 hr hl hH hU h0 h3 h5;go_enter func91,ntmps91;go_wp2_with (first|(refine aG (u:=v0) (v:=jZ k) (w':=w1) rfl _ (.tmp 0) rfl ?_ ?_ ?_;rfl;exact B0.out)|(refine aG (u:=vy) (v:=jZ k4) (w':=w2) rfl _ (.tmp 1) rfl ?_ ?_ ?_;rfl;exact B1.out)|(refine aG (u:=vz) (v:=jZ k5) (w':=w3) rfl _ (.tmp 2) rfl ?_ ?_ ?_;rfl;exact B2.out)|(refine alR 6 T hu ?_)|fail)
 obtain⟨b,d⟩:=hE (l.heap.size);have h6:∀ {W},kZ l W->b<=W.heap.size:=λh=>d.out ▸ h.size
 refine(gwL [pE (nv y),pE (nv L),pE (oZ k 1),pE (.slice (some ⟨K,M,none⟩) n ch),pE (iZ n),pZ b n (pwN N L),RG.pN b [.slice none 0 0]] (λW=>kZ l W) (λW W' d h=>h.trans (d.mono h.size))).tail2 7 kR kR kR ⟨
  gLo 4 (λW s=>(F.2.2.1.below s).2.1) u40 i40,
  oG 0 9 144 (λx=>#[x]) (λx W j s=>by
   obtain rfl:x=nv y:=j;exact HI W),
  gP 3 (jZ k) (oZ k 1),
  fF 148 2 11 k 1 (.slice (some ⟨K,M,none⟩) n ch) uGL (λx W h=>h) (λW s=>(F.2.1.below s).2.1 1 _ rfl) (λ_=>rfl),
  rX 3 12 (.slice (some ⟨K,M,none⟩) n ch) (iZ n) (λx W h=>h) (λ_=>rfl),
  eF 1 10 4 13 83 (λx y=>#[x,y]) (λx u W j r s=>by
   obtain rfl:x=nv L:=j;obtain rfl:u=iZ n:=r;exact(FY O L k3 n oM W).mono λe W' ⟨v,D,t,h3,h4⟩=>⟨v,D,t,h3.from (h6 s),h4⟩),
  tY [.slice none 0 0] 143 (λW W' h s=>⟨_,rfl,h6 s,h⟩),yEU⟩ ⟨rfl,rfl,rfl,Xx _,λ_ _=>rfl⟩ ?_
 intro V w5 hR s;obtain⟨S1,g1,c1,e5⟩:=hR 5 dC;rw[e5]at S1;obtain⟨k7,e6,l7,R7⟩:=hR 6 dC;dsimp only[bY,YH,ZQ,ZR];simp only[XK,Xt,Xv,Xw];rw[e5,e6];clear hR e5 e6;generalize V 0=s0;generalize V 1=s1;generalize V 2=s2;generalize V 3=s3;generalize V 4=s4;have n7:g1≠k7:=xM S1 k8 R7 (by simp);obtain⟨l1,P⟩:=hE (sZ g1 n c1);obtain⟨w6,hq⟩:=hE (w5.setCells k7 0 [l1]);have D:Hid (kZ l w6/\Row w6 k7 [l1]/\SLq (b<=·) w6 l1 n (pwN N L)):=by
  rw[<-hq.out,<-P.out];exact⟨RG.below_setCells (by rw[d.out];exact l7) _ _ _ s,R7.put rfl,qM S1 n7⟩
 have R:=mk2 R7.2.2 (show l1.cells=#[l1]/\l1.oneCell'=true by rw[<-P.out];exact⟨rfl,rfl⟩);rw[P.out];clear S1 R7 n7 s l7;refine Np (w:=w5) 7 hq R.1 iSl R.2.1 R.2.2 ?_;have kd:w6.cell? ⟨k,1,none⟩=some (.slice (some ⟨K,M,none⟩) n ch):=(F.2.1.below D.1).2.1 1 _ rfl;have kf:∀(fn:Fn) (first cap:Array Xu) (w:Xs),(yAW fn first cap).run prog w=.ok (.func fn first cap) w:=λ_ _ _ _=>rfl
 have X:=F.1.trans (D.1.mono F.1.size);have HL:=mk1 (AH n oM 148 #[jZ k,jZ k7] (λ_ _=>kR) (qD N y H) w6 λi W hi t=>by
  have bb:=X.trans (t.mono X.size);obtain⟨x,r,S⟩:=Y.1 i hi;have T1:=D.2.2.keep (Kq.of_below t);have Rb:=D.2.1.below t;obtain⟨k1,E,k2,j,-,-,t1,f1⟩:=T1;rw[j]at Rb;have hT:=QD O (H i) (HT.1 i hi).1 (HT.1 i hi).2 (pwN N L i) (xX O L i) i k k7 K M n ch k1 E n k2 _ vu x hi hi W (Xz Y.2 bb.size) t1 ((F.2.1.below D.1).below t) Rb (by rw[Nat.one_mul,bb.cell (p:=⟨K,M+i,none⟩) Y.2];exact r) (S.sm.grow bb) (f1 i hi);rw[<-A.out]at hT;exact hT)
 clear X;go_wp2_with fail
 refine HL.mono ?_;clear HL;rintro e w7 ⟨vn,rfl,ha,S⟩;have h9:=D.1.trans (ha.mono D.1.size);obtain⟨gn,on,cn,en⟩:∃g o c,vn=.slice (some ⟨g,o,none⟩) n c:=by obtain⟨g,o,c,h,-⟩:=S;exact⟨g,o,c,h⟩
 subst en;have E:=mk3 h9 (S.mono (Q':=(l.heap.size<=·)) λg hg=>XB D.1.size hg) Z;clear ha S h9;go_wp2_with fail
 refine AW.begin 8 8 ?_;refine AW.va 0 (jZ k) ?_;refine AW.ce 1 uGL (λW d=>((F.2.1.below E.1).below d).2.1 0 _ rfl) ?_;refine AW.mv 2 ?_;refine AW.va 3 (oZ k 2) ?_;refine AW.ce 4 A9 (λW d=>((F.2.1.below E.1).below d).2.1 2 _ rfl) ?_;refine AW.ro 5 (λW d=>((F.2.2.2.1.below E.1).below d).2.1) B u40 i40 ?_;have j:=mk1 (F.1.trans (E.1.mono F.1.size));refine AW.ca 6 (λd=>HT.2 _ (j.trans (d.mono j.size))) (λe w' h=>h.1) ?_;rintro e w8 ⟨ke,he⟩;simp only[XK,Xt,Xv,Xw];obtain⟨ge,me,ce,ee⟩:∃g m c,e=sZ g m c:=by obtain⟨g,c,h,-⟩:=he;exact⟨g,_,c,h⟩
 subst ee;refine AW.nx 7 (.agg #[.slice (some ⟨I,J,none⟩) n C,.slice (some ⟨gn,on,none⟩) n cn,sZ ge me ce]) ?_;refine AW.fi (us:=[.slice (some ⟨I,J,none⟩) n C,.slice (some ⟨gn,on,none⟩) n cn,sZ ge me ce]) (Hid.mk' rfl) kR iGr (λd=>?_);obtain⟨w9,r⟩:=hE (w8.setCells k6 0 [.slice (some ⟨I,J,none⟩) n C,.slice (some ⟨gn,on,none⟩) n cn,sZ ge me ce]);have KE:Hid (w8.there k6 0 3/\Row w9 k6 [.slice (some ⟨I,J,none⟩) n C,.slice (some ⟨gn,on,none⟩) n cn,sZ ge me ce]/\kZ w w9/\GRq Q w9 (.agg #[.slice (some ⟨I,J,none⟩) n C,.slice (some ⟨gn,on,none⟩) n cn,sZ ge me ce]) n G (qD N y H) (U.map (tmT N z))):=by
  have k9:=E.1.trans (d.mono E.1.size);have r6:=F.2.2.2.2.below k9;have l6:k6<l.heap.size:=F.2.2.2.2.1;have kq:Kq (l.heap.size<=·) w8 w9:=by rw[<-r.out];exact Kq.set λg hg=>oM
  have k0:Kq Q w w9:=by
   have hp:kZ w (w8.setCells k6 0 [.slice (some ⟨I,J,none⟩) n C,.slice (some ⟨gn,on,none⟩) n cn,sZ ge me ce]):=RG.below_setCells Z _ _ _ (j.trans (d.mono j.size));rw[r.out]at hp;exact Kq.of_below hp
  rw[<-r.out];refine⟨r6.2.2,r6.put rfl,RG.below_setCells Z _ _ _ (j.trans (d.mono j.size)),?_⟩;rw[r.out];have q:∀g,l.heap.size<=g->Q g:=λg hg=>HK.2.1 g (XB F.1.size hg)
  exact⟨_,_,_,rfl,HK.1.keep k0,((E.2.1.keep (Kq.of_below d)).keep kq).mono q,((he.q.mono λg hg=>XB E.1.size hg).keep kq).mono q⟩
 rw[r.out];refine⟨KE.1,?_⟩;go_wp2_with fail
 refine XE (aF 6 150 rfl KE.2.1 rfl uGr iGr) rfl ?_;exact⟨_,rfl,KE.2.2.1,KE.2.2.2⟩
end
section
variable {N:Nat}
section
variable {P:YG}{ops:Array Yo}{Q:yAL->Act->Xs->Prop}{p r:Nat}{I:Iv}{fuel:Nat}{o:Yo}{listed:Array Bool}{a:Act}{w:Xs}{d:Option Zs}
theorem AW.fc{f:ZY}{args:Array Xu}{R:Xu->Xs->Prop}(g:I.p w->XH P f args w (Ret R))(h:∀e w',I.p w->R e w'->Q .normal (a.put d e) w')(ho:ops[p]? = some o:=by(simp only[Ye,Ya,Yc])<;>rfl)(hd:o.dst=d:=by rfl)(c:o.guard=none:=by rfl)(hx:(Yb a.eval o).run P w=.ok (.enter f args) w:=by kernel_rfl)(k:(Yf .any ops listed,Yf .any ops (listed.setIfInBounds p true),I.b,(listed.setIfInBounds p true).getD p false,(listed.setIfInBounds p true).getD r false)=([p],[],true,true,true):=by kernel_rfl):AW P ops Q p r I (fuel+1) listed a w:=λb=>by
 simp only[Ze.injEq]at k;exact anyS.cal ho (g b) (λe w' hR=>⟨X9 k.2.2,anyS.done k.2.1 (h e w' b hR) _⟩) k.1 c hx hd
end
theorem rnF{W:Xs}{k o:Nat}{xs ys:List Xu}(h:W.rangeAt k o (xs++ys)):W.rangeAt k o xs:=λj v b=>h j v (by rw[XQ (XG.1 b).1];exact b)
theorem rnB{W:Xs}{k o m:Nat}{xs ys:List Xu}(h:W.rangeAt k o (xs++ys))(c:o+xs.length=m):W.rangeAt k m ys:=λj v b=>by
 have:=h (xs.length+j) v (by rw[XR oM,Nat.add_sub_cancel_left];exact b);rw[<-Zu,c]at this;exact this
theorem rnC{W:Xs}{k o m:Nat}{xs ys:List Xu}(c:W.rangeAt k o xs)(d:W.rangeAt k m ys)(e:o+xs.length=m):W.rangeAt k o (xs++ys):=λj v b=>by
 by_cases h:j<xs.length
 ·exact c j v (by rwa[XQ h]at b)
 ·rw[XR oM]at b;have:=d (j-xs.length) v b;rwa[<-e,Zu,Nat.add_sub_cancel' oM]at this
theorem Row.mid{W:Xs}{k m:Nat}{xs ys zs us l l':List Xu}(h:Row W k l)(e:l=xs++(ys++zs))(e':l'=xs++(us++zs))(b:us.length=ys.length)(g:xs.length=m):W.there k m us.length/\Row (W.setCells k m us) k l':=by
 subst e e' g;obtain⟨i,f,c⟩:=h;have d:W.there k xs.length us.length:=λj n=>by
  have:=c (xs.length+j) (by simp only[XC];omega);rwa[XD]at this
 have z:=XD xs.length;refine⟨d,by rw[setCells_size];exact i,rnC (Yk (rnF f) k _ us (X0 (X9 oM))) (rnC (YM W k _ us d) (Yk (rnB (rnB f z) rfl) k _ us (X0 (X0 oM))) (by rw[b])) z,?_⟩;have:=Y2 c k xs.length us;simp only[XC,b]at this⊢;exact this
structure Rp where
 a:Bs
 s:Bs
 c:Bs
 d:Bs
 u:Nat
 m:Nat
 t:Nat
namespace Rp
def l(p:Rp):List Xu:=aA p.a++(aA p.s++(aA p.c++(aA p.d++(wn p.u++(wn p.m++wn p.t)))))
structure Ok(p:Rp):Prop where
 a:p.a.size=33
 s:p.s.size=33
 c:p.c.size=33
 d:p.d.size=33
variable {p:Rp}{W:Xs}{k:Nat}
theorem len(h:p.Ok):p.l.length=144:=by
 unfold l;simp only[XC,aB h.a,aB h.s,aB h.c,aB h.d];rfl
theorem one(p:Rp):p.l.toArray.all (·.oneCell')=true:=by
 unfold l;have h:∀b:Bs,(aA b).all (·.oneCell')=true:=λb=>by have:=bQ b;rwa[yAJ]at this
 have k:∀n,(wn n).all (·.oneCell')=true:=λn=>by have:=aI n;rwa[yAJ]at this
 rw[yAJ];simp only[List.all_append,h,k,Bool.and_true]
theorem at7(h:p.Ok)(f:W.rangeAt k 0 p.l):W.rangeAt k 0 (aA p.a)/\W.rangeAt k 33 (aA p.s)/\W.rangeAt k 66 (aA p.c)/\W.rangeAt k 99 (aA p.d)/\W.rangeAt k 132 (wn p.u)/\W.rangeAt k 136 (wn p.m)/\W.rangeAt k 140 (wn p.t):=by
 have c:=rnB (m:=33) f (by rw[aB h.a]);have d:=rnB (m:=66) c (by rw[aB h.s]);have g:=rnB (m:=99) d (by rw[aB h.c]);have b:=rnB (m:=132) g (by rw[aB h.d]);have e:=rnB (m:=136) b rfl;have i:=rnB (m:=140) e rfl;exact⟨rnF f,rnF c,rnF d,rnF g,rnF b,rnF e,i⟩
theorem V9(h:p.Ok)(d:Row W k p.l){x:Bs}(hx:x.size=33):W.there k 0 (aA x).length/\Row (W.setCells k 0 (aA x)) k { p with a:=x }.l/\{ p with a:=x }.Ok:=by
 obtain⟨b,c⟩:=Row.mid (xs:=[]) (us:=aA x) (l':={ p with a:=x }.l) d rfl rfl (by rw[aB hx,aB h.a]) rfl;exact⟨b,c,hx,h.s,h.c,h.d⟩
theorem sets(h:p.Ok)(d:Row W k p.l){x:Bs}(hx:x.size=33):W.there k 33 (aA x).length/\Row (W.setCells k 33 (aA x)) k { p with s:=x }.l/\{ p with s:=x }.Ok:=by
 obtain⟨b,c⟩:=Row.mid (xs:=aA p.a) (us:=aA x) (l':={ p with s:=x }.l) d rfl rfl (by rw[aB hx,aB h.s]) (aB h.a);exact⟨b,c,h.a,hx,h.c,h.d⟩
theorem V8(h:p.Ok)(e:Row W k p.l){x:Bs}(hx:x.size=33):W.there k 66 (aA x).length/\Row (W.setCells k 66 (aA x)) k { p with c:=x }.l/\{ p with c:=x }.Ok:=by
 obtain⟨b,d⟩:=Row.mid (m:=66) (xs:=aA p.a++aA p.s) (ys:=aA p.c) (zs:=aA p.d++(wn p.u++(wn p.m++wn p.t))) (us:=aA x) (l':={ p with c:=x }.l) e (by unfold l;simp only[YI]) (by unfold l;simp only[YI]) (by rw[aB hx,aB h.c]) (by rw[XC,aB h.a,aB h.s]);exact⟨b,d,h.a,h.s,hx,h.d⟩
theorem V7(h:p.Ok)(e:Row W k p.l){x:Bs}(hx:x.size=33):W.there k 99 (aA x).length/\Row (W.setCells k 99 (aA x)) k { p with d:=x }.l/\{ p with d:=x }.Ok:=by
 obtain⟨b,c⟩:=Row.mid (m:=99) (xs:=aA p.a++(aA p.s++aA p.c)) (ys:=aA p.d) (zs:=wn p.u++(wn p.m++wn p.t)) (us:=aA x) (l':={ p with d:=x }.l) e (by unfold l;simp only[YI]) (by unfold l;simp only[YI]) (by rw[aB hx,aB h.d]) (by simp only[XC,aB h.a,aB h.s,aB h.c]);exact⟨b,c,h.a,h.s,h.c,hx⟩
theorem V4(h:p.Ok)(d:Row W k p.l)(x:Nat):W.there k 132 (wn x).length/\Row (W.setCells k 132 (wn x)) k { p with u:=x }.l/\{ p with u:=x }.Ok:=by
 obtain⟨b,c⟩:=Row.mid (m:=132) (xs:=aA p.a++(aA p.s++(aA p.c++aA p.d))) (ys:=wn p.u) (zs:=wn p.m++wn p.t) (us:=wn x) (l':={ p with u:=x }.l) d (by unfold l;simp only[YI]) (by unfold l;simp only[YI]) rfl (by simp only[XC,aB h.a,aB h.s,aB h.c,aB h.d]);exact⟨b,c,h.a,h.s,h.c,h.d⟩
theorem V6(h:p.Ok)(d:Row W k p.l)(x:Nat):W.there k 136 (wn x).length/\Row (W.setCells k 136 (wn x)) k { p with m:=x }.l/\{ p with m:=x }.Ok:=by
 obtain⟨b,c⟩:=Row.mid (m:=136) (xs:=aA p.a++(aA p.s++(aA p.c++(aA p.d++wn p.u)))) (ys:=wn p.m) (zs:=wn p.t) (us:=wn x) (l':={ p with m:=x }.l) d (by unfold l;simp only[YI]) (by unfold l;simp only[YI]) rfl (by simp only[XC,aB h.a,aB h.s,aB h.c,aB h.d];rfl);exact⟨b,c,h.a,h.s,h.c,h.d⟩
theorem V5(h:p.Ok)(d:Row W k p.l)(x:Nat):W.there k 140 (wn x).length/\Row (W.setCells k 140 (wn x)) k { p with t:=x }.l/\{ p with t:=x }.Ok:=by
 obtain⟨b,c⟩:=Row.mid (m:=140) (xs:=aA p.a++(aA p.s++(aA p.c++(aA p.d++(wn p.u++wn p.m))))) (ys:=wn p.t) (zs:=[]) (us:=wn x) (l':={ p with t:=x }.l) d (by unfold l;simp only[YI,yAh]) (by unfold l;simp only[YI,yAh]) rfl (by simp only[XC,aB h.a,aB h.s,aB h.c,aB h.d];rfl);exact⟨b,c,h.a,h.s,h.c,h.d⟩
end Rp
theorem uRd:(prog.underlying 153).map (·.isRow)=some true:=kR
theorem iRd:(prog.info? 153).map (·.size)=some 144:=kR
theorem Mi{p:Rp}(h:p.Ok)(w:Xs):(Yl 153 (.agg p.l.toArray)).run prog w=.ok (jZ w.heap.size) (w.alloc (.cells p.l.toArray 153)):=by
 unfold Rp.l;rw[dE h.a,dE h.s,dE h.c,dE h.d];kernel_rfl
end
end Go.Proofs.YtlofhpkoaljmeaaGreat
