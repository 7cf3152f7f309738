import Derived.Test.YtlofhpkoaljmeaaGreatat4
set_option linter.unusedVariables false
set_option linter.defProp false
set_option linter.constructorNameAsVariable false
set_option linter.unusedSimpArgs false
set_option maxRecDepth 1000000
set_option maxHeartbeats 4000000
namespace Go.Proofs.YtlofhpkoaljmeaaGreat
open EC NT RG SP
open _root_.And renaming intro->YV
open _root_.Array renaming all_eq_true'->ZJ,getD_eq_getD_getElem?->XQ,getElem?_eq_getElem->X8,getElem?_eq_none->Z0,getElem?_eq_some_iff->X5,length_toList->XU,replicate->XT,size_append->Yl,size_replicate->X0,toArray_toList->yAE
open _root_.Bool renaming and_eq_true->XV,or_eq_true->Z2
open _root_.Fin renaming ext->yA0,val_add->yDq,val_mul->yAG
open _root_.Go renaming Addr->Y0,Calls->YN,Exit->yAM,FuncId->ZQ,Oper->Yp,Operand->yAe,Program->YJ,Tmp->Zw,TypeId->Yd,Value->XB,World->XA,bodyPost_ret->XN,execOp->Yh,run_append_own->yBm,run_append_room_src->yCj,run_loadVar_mid->yAx,run_storeVar_mid->yDw,run_underlying->yAZ,size_madeCells->yBS,undef->Zs,wpList_load_mid->YI,wpList_plain->ZL,wpList_store_mid->Yk,wpOp_mono->yDv,wp_block->YX,wp_cond_false->Yb,wp_cond_true->Yy,wp_exit->yAC,wp_ret->Za,wp_seq->XG,wp_skip->YU
open _root_.Go.Act renaming put->Ym
open _root_.Go.Addr renaming add->yBT
open _root_.Go.Builtin renaming append_->YG,firstCells->yC1,nextslicecap->yA5
open _root_.Go.Code renaming region->Zd
open _root_.Go.Deferred renaming ofValue->yC8
open _root_.Go.Ending renaming returned->yBG
open _root_.Go.Instr renaming box->Ys,index->yBu,indexAt->Yv,makeSlice->yAh,sliceAt->Zy,storeAt->yBE,sureAddr->yA3
open _root_.Go.IntKind renaming i64->Ya,wrap_i64->YD
open _root_.Go.Lib renaming bytesCells->yAL,bytesWorld->yBx,bytesWorld_size->yCd
open _root_.Go.Next renaming value->ZS
open _root_.Go.Oper renaming wp->Y3
open _root_.Go.Operand renaming tmp->yCQ
open _root_.Go.Region renaming binds->Zb,ready->Yu,wanted->Zc
open _root_.Go.Result renaming andThen_ok->Yz
open _root_.Go.RowKit.Below renaming mono->yDy,refl->XR
open _root_.Go.RowKit.Hid renaming out->yBN
open _root_.Go.Sem renaming run_bind->X1,run_pure->Zr
open _root_.Go.Src renaming ofSlice->yDp
open _root_.Go.Value renaming agg->X9,func->yCI,int->YW,ownBlock->Zh
open _root_.Go.World renaming cell?->YZ,cell?_drew->yBD,cell?_of_block->X4,freeze->yBH,frozen?->Zk,frozen?_of_block->Y2,rangeAt_setCells_apart->Yn,rangeAt_setCells_same->YY,setCells->yBn,size_alloc->XP,size_drew->yDT,there_setCells->Zg
open _root_.Int renaming natCast_mul->yAm,tdiv_eq_ediv_of_nonneg->yAK,toNat_natCast->yA9
open _root_.List renaming getElem?_cons_zero->Yi,getElem?_cons_succ->Yg,getElem?_toArray->Yj,nil_append->Z1,cons_append->ZX,all_eq_true->Yq,any_eq_true->yDR,append_nil->yAk,drop->yAd,drop_length->yDP,eq_nil_of_length_eq_zero->yCt,getElem?_append_right->XW,getElem?_eq_getElem->XO,getElem?_eq_none->ZK,getElem?_eq_some_iff->XM,getElem?_map->YB,getElem_mem->YS,length_append->XK,length_map->XZ,length_set->yDY,map_append->Y1,mem_append->Y9,mem_cons_of_mem->Yo,mem_cons_self->YH,mem_map->YC,mem_range->Y4,mem_singleton->Zj,mem_toArray->yAI,nodup_append->yBC,not_mem_nil->Yf,range->YA,setIfInBounds_toArray->XF,set_cons_succ->XJ,set_cons_zero->XL,size_toArray->YF,take->yAb
open _root_.Nat renaming add_mul->yAs,div_eq_of_lt->yAr,le_of_ble_eq_true->YL,le_of_eq->yBr,le_refl->XD,le_trans->XH,log2->yEg,lt_of_lt_of_le->XC,lt_of_succ_le->Z6,lt_or_ge->Zp,mod_eq_of_lt->X6,mod_lt->Y8,mul_comm->YK,mul_le_mul->ZD,mul_le_mul_left->yAY,mul_le_mul_right->yAn,mul_pos->yDm,mul_succ->yBA,not_lt_zero->ZP,one_mul->ZV,pos_of_neZero->yAF,pow_succ->Zf,reduceAdd->YT,zero_add->XI,zero_le->Zl,zero_lt_succ->yCE,zero_mod->yA6
open _root_.Option renaming isSome_iff_exists->YQ,map_eq_some_iff->XE,map_some->yAq,some->XX
open _root_.Or renaming inl->Ye,inr->X7
open _root_.Prod renaming fst->yCa,mk->Ze,snd->yB9
open _root_.Subtype renaming ext->yA4
open Go.Proofs.Tryz
open Go.RowKit Go.Sort Go.Deep
variable {P:Nat}[NeZero P]{N:Nat}
def Em(O:Ord N){a:Nat}(b:a<N):Gives 37 #[nv a] (nv (sMi N 0 a)):=by
 intro w;have h:=D3 O 0 a O.pos b;generalize sMi N 0 a=m at h⊢;go_enter func37,ntmps37;refine RG.M.enter [(0,.v (nv a))] 6 kR ?_;intro a0 d;repeat apply XG
 refine d.T [.m 0,.m 1] [(0,wn a),(1,RG.z 4)] [] [wn a,RG.z 4] [1,2] ⟨mk 0 44,mk 1 44,yEZ⟩ ?_;intro j i f e c;repeat apply XG
 refine c.T [.x (nv 0),.x (nv a),.c (nv m),.u 1] [] [(1,3,wn m)] [wn a,wn m] [2] ⟨st,ld u40 i40,cl h,RG.pt i40,yEZ⟩ ?_;intro a2 g k;refine Za<|XN (v:=nv m) (aH k.st rfl rfl (k.at (s:=(.p 1 0))) u40 i40) k.sl.defers ?_
 exact⟨_,rfl,k.st.bel.below,rfl⟩
def WE{N:Nat}(e:N<=512):∃C0:List XB,C0.length=37*N/\∀w:XA,(yAh 82 (iZ N) (iZ N)).run prog w=.ok (sZ w.heap.size N N) (w.alloc (.cells C0.toArray 124)):=by
 have m:(prog.info? 124).map (λi=>(i.size,decide (i.bytes<=4000),i.zero.isSome))=some (37,true,true):=kR;obtain⟨i,b,k⟩:=XE.1 m;simp only[Ze.injEq,decide_eq_true_eq]at k;obtain⟨f,j,d⟩:=k;obtain⟨z,l⟩:=YQ.1 d;refine⟨(madeCells z.cells (N*37)).toList,by rw[XU,yBS,YK],λw=>?_⟩;have g:(i.bytes:Int)*(N:Int)<=281474976710656:=by
  have:i.bytes*N<=4000*512:=ZD j e;have c:((i.bytes*N:Nat):Int)<=281474976710656:=oM;rwa[yAm]at c
 have:=run_make (P:=prog) w 82 124 i z DD b l .i64 .i64 (N:Int) (N:Int) oM oM g oM;rw[yA9,f]at this;rw[yAE];exact this
def IK{W:XA}{j g:Nat}{l:LB}(k:∀x∈l.map (·.2),x.size=33)(e:W.rangeAt g 0 (aP l))(b:j<l.length):W.rangeAt g (37*j) (wn (l[j]).1++aA (l[j]).2):=λt u c=>by
 have d:t<37:=by
  have:=(XM.1 c).1;rw[iF (k _ (YC.2 ⟨_,YS b,rfl⟩))]at this;exact this
 have:=e (37*j+t) u (by rw[lQ l k j b t d];exact c);rw[XI]at this;exact this
def D5{W:XA}{g:Nat}{l:LB}(k:∀x∈l.map (·.2),x.size=33)(m:∀j (b:j<l.length),W.rangeAt g (37*j) (wn (l[j]).1++aA (l[j]).2)):W.rangeAt g 0 (aP l):=λt u f=>by
 have c:t<l.length*37:=by
  have:=(XM.1 f).1;rwa[qX λx hx=>k _ (YC.2 ⟨x,hx,rfl⟩)]at this
 have b:t/37<l.length:=Nat.div_lt_of_lt_mul oM;have i:t%37<37:=Y8 _ dC;have e:37*(t/37)+t%37=t:=Nat.div_add_mod _ _;have d:=lQ l k (t/37) b (t%37) i;rw[e,f]at d;have:=m (t/37) b (t%37) u d.symm;rw[e]at this;rw[XI];exact this
def tmT(N n:Nat)(x:Nat × Bs):Nat × Bs:=(sTi N n x.1,x.2)
structure Tz(w W:XA)(N n K k3 i:Nat)(l:LB):Prop where
 bl:kZ w W
 lt:K<W.heap.size
 ne:k3≠K
 th:W.there K 0 (37*l.length)
 r3:Row W k3 (wn n)
 rw:∀j (hj:j<l.length),j<i->W.rangeAt K (37*j) (wn (tmT N n (l[j])).1++aA (tmT N n (l[j])).2)
def Tz.grow{w W W':XA}{n K c i:Nat}{l:LB}(h:Tz w W N n K c i l)(k:kZ W W'):Tz w W' N n K c i l:=
 ⟨h.bl.trans (k.mono h.bl.size),XC h.lt k.size,h.ne,eC h.th k h.lt,h.r3.below k,λj d b=>RG.range_below (h.rw j d b) k h.lt⟩
def Tz.drew{w W:XA}{n K k i:Nat}{l:LB}(h:Tz w W N n K k i l):Tz w W.drew N n K k i l:=⟨h.bl.drew,h.lt,h.ne,h.th,h.r3,h.rw⟩
def Tz.put{w W:XA}{n K d i:Nat}{l:LB}(h:Tz w W N n K d i l)(m:w.heap.size<=K)(o:i<l.length)(c:∀x∈l.map (·.2),x.size=33):Tz w (W.setCells K (37*i) (wn (tmT N n (l[i])).1++aA (tmT N n (l[i])).2)) N n K d (i+1) l:=by
 have b:∀(j:Nat) (k:j<l.length),(wn (tmT N n (l[j])).1++aA (tmT N n (l[j])).2).length=37:=λj k=>iF (c _ (YC.2 ⟨_,YS k,rfl⟩))
 refine⟨RG.below_setCells m _ _ _ h.bl,by rw[setCells_size];exact h.lt,h.ne,Zg h.th _ _ _,⟨by rw[setCells_size];exact h.r3.1,Yn h.r3.2.1 K _ _ (Ye h.ne),Zg h.r3.2.2 _ _ _⟩,λj k g=>?_⟩;by_cases e:j=i
 .subst e;refine YY W K _ _ λt f=>?_
  rw[b j k]at f;have:=h.th (37*j+t) oM;rwa[XI]at this
 .exact Yn (h.rw j k oM) K _ _ (X7 (Ye (by rw[b j k];omega)))
section
variable (w:XA) (n K k3 k7 i s m:Nat) (p:Bs) (l:List (Nat × Bs))
def Rt:Nat->XB->XA->Prop
 | 0,v,_=>v=sZ K l.length l.length
 | 1,v,_=>v=iZ i
 | 2,v,_=>v=nv n
 | 3,v,_=>v=jZ k7
 | 4,v,_=>v=nv s
 | 5,v,_=>v=nv m
 | 6,v,_=>v=oZ k7 4
 | 7,v,_=>v=pvl p
 | 8,v,_=>v=tvl m p
 | 9,v,_=>v=oZ K (0+37*i)
 | _,_,_=>True
def Gt(N:Nat):Gw:=⟨Rt n K k7 i s m p l,λW=>Tz w W N n K k3 i l/\Row W k7 (wn s++aA p),λj v W W' k h=>by
 match j,h with
 | 0,h=>exact h
 | 1,h=>exact h
 | 2,h=>exact h
 | 3,h=>exact h
 | 4,h=>exact h
 | 5,h=>exact h
 | 6,h=>exact h
 | 7,h=>exact h
 | 8,h=>exact h
 | 9,h=>exact h
 | _+10,_=>trivial,λW W' k h=>⟨h.1.grow k,h.2.below k⟩⟩
end
def eD(O:Ord N){n:Nat}(hn:n<N)(B:Nat)(s:XB)(l:List (Nat × Bs))(hl:l.length<=512)(h8:∀x∈l.map (·.2),x.size=33)(U:∀x∈l,x.1<N)(w:XA)(hS:Sm B w s l):
 YN prog 149 #[s,nv n] w (rZ w λe w'=>Sm w.heap.size w' e (l.map (tmT N n))):=by
 obtain⟨g,c,rfl,hc,-,hg,hr⟩:=hS;have HB:=Hid.mk' (boxS n (w:=w));obtain⟨C,D⟩:∃C,Hid (w.alloc (.cells (wn n).toArray 44)=C):=⟨_,rfl⟩
 rw[D.out]at HB;obtain⟨H,r⟩:∃k,Hid (w.heap.size=k):=⟨_,rfl⟩
 obtain⟨K,hK⟩:∃k,Hid (C.heap.size=k):=⟨_,rfl⟩
 have e1:K=H+1:=by rw[<-hK.out,<-r.out,<-D.out,XP]
 obtain⟨C0,h9,h5⟩:=WE (N:=l.length) hl;have I:=h5 C;obtain⟨w2,G⟩:∃w2,Hid (C.alloc (.cells C0.toArray 124)=w2):=⟨_,rfl⟩
 rw[G.out,hK.out]at I;rw[r.out]at HB;have K2:Hid (Tz w w2 N n K H 0 l):=by
  have f:Row C H (wn n):=by rw[<-D.out,<-r.out];exact row_new w _ _
  have b1:kZ w C:=by rw[<-D.out];exact aD _
  have o:kZ C w2:=by rw[<-G.out];exact aD _
  have d:Row w2 K C0:=by rw[<-G.out,<-hK.out];exact row_new C _ _
  exact⟨b1.trans (o.mono b1.size),d.1,oM,by rw[<-h9];exact d.2.2,f.below o,λj hj q=>oM⟩
 have A:Hid (Ord N/\n<N/\(∀x∈l.map (·.2),x.size=33)/\(∀x∈l,x.1<N)/\g<w.heap.size/\w.rangeAt g 0 (aP l)/\w.heap.size<=K):=⟨O,hn,h8,U,hg,hr,by rw[r.out];omega⟩
 obtain⟨d',h0,Y⟩:=XE.1 uT;have HD:Hid (prog.underlying 124=some d'/\d'.isRow=true):=⟨h0,Y⟩
 obtain⟨vn,he⟩:∃v,Hid (nv n=v):=⟨_,rfl⟩
 rw[he.out]at HB⊢;clear h0 Y O hn h8 U hg hr h5 h9 D G hK r e1;go_enter func149,ntmps149;go_wp2_with (first|(refine aG (u:=vn) (v:=jZ H) (w':=C) rfl 44 (.tmp 1) rfl ?_ ?_ ?_;rfl;exact HB.out)|fail)
 clear I;go_loopg [13] l.length (λm s13 W=>∃i:Nat,i+m=l.length/\s13=iZ i/\Hid (Tz w W N n K H i l))
 case atStart=>exact⟨0,oM,rfl,K2⟩
 case round =>
  clear K2 HB;obtain⟨i,hw,rfl,P⟩:=hrel;by_cases q:i<l.length
  .have hm:(i:Int)<(l.length:Int):=oM;obtain⟨s,J⟩:∃s,Hid ((l[i]'q).1=s):=⟨(l[i]'q).1,(rfl:(l[i]'q).1=(l[i]'q).1)⟩
   obtain⟨p,R⟩:∃p,Hid ((l[i]'q).2=p):=⟨(l[i]'q).2,(rfl:(l[i]'q).2=(l[i]'q).2)⟩
   have F:Hid (p.size=33):=by rw[<-R.out];exact A.2.2.1 _ (YC.2 ⟨_,YS q,rfl⟩)
   have hk:Hid (s<N):=by rw[<-J.out];exact A.2.2.2.1 _ (YS q)
   have B0:Hid (wr.rangeAt g (37*i) (wn s++aA p)):=by
    have h:=RG.range_below (IK A.2.2.1 A.2.2.2.2.2.1 (j:=i) q) P.bl A.2.2.2.2.1;rw[J.out,R.out]at h;exact h
   obtain⟨o,E⟩:∃k,Hid (wr.heap.size=k):=⟨_,rfl⟩
   obtain⟨Q,T⟩:∃Q,Hid (wr.alloc (.cells zT.toArray 124)=Q):=⟨_,rfl⟩
   obtain⟨W2,L⟩:∃W2,Hid (Q.setCells o 0 (wn s++aA p)=W2):=⟨_,rfl⟩
   have f:(wn s++aA p).length=37:=iF F.out;have F1:Hid (Row Q o zT/\kZ wr Q):=by rw[<-T.out,<-E.out];exact⟨row_new wr _ _,aD (w:=wr) _⟩
   have F2:Hid (Row W2 o (wn s++aA p)/\Tz w W2 N n K H i l):=by
    rw[<-L.out];exact⟨F1.1.put (by rw[f];rfl),P.grow (RG.below_setCells (by rw[E.out];exact XD _) _ _ _ F1.2)⟩
   have ha:Hid ((prog.info? 124).map (·.size)=some (wn s++aA p).length):=by show _=_;rw[f];exact iT
   have Z:Hid ((prog.info? 124).map (·.size)=some (wn s++aA p).toArray.size/\Q.there o 0 (wn s++aA p).toArray.size):=by
    have e:(wn s++aA p).toArray.size=37:=by rw[YF];exact f
    rw[e];exact⟨iT,F1.1.2.2⟩
   have hq:Hid ((wn s++aA p).toArray.all (·.oneCell')=true):=by
    show _=_;rw[ZJ];intro u hu;exact cells_one (n:=s) (a:=p) u (yAI.1 hu)
   have hs:=atT g 0 (n:=l.length) c (i:=i) q;obtain⟨vt,h3⟩:∃v,Hid (X9 (wn s++aA p).toArray=v):=⟨_,rfl⟩
   have HL:Hid (i<l.length):=q;clear f P F1;go_wp2_with (first|(refine YI rfl 124 _ rfl g (37*i) ?_ (wn s++aA p) d' ?_ ?_ ?_ ?_ ?_;rfl;exact B0.out;exact HD.1;exact HD.2;exact ha.out;rw[h3.out])|(refine bH (v:=jZ o) (w':=Q) rfl (.alloc 124) rfl ?_ ?_;(rw[<-T.out,<-E.out];kernel_rfl))|(refine Yk rfl 124 _ _ rfl o 0 (wn s++aA p).toArray ?_ ?_ ?_ ?_ ?_ ?_;rfl;exact h3.symm;exact Z.2;exact Z.1;exact hq.out;rw[show(wn s++aA p).toArray.toList=wn s++aA p from rfl,L.out])|fail)
   clear T L E;refine(Gt w n K H o i s (sTi N n s) p l N).last 10 kR kR kR ⟨
    bJ λa W d=>⟨[(5,sZ K l.length l.length)],sZ K l.length l.length,W,⟨d.o 5 kR,yEZ⟩,kR,XR _ _,rfl⟩,
    bJ λa W d=>⟨[(6,iZ i)],iZ i,W,⟨d.o 6 kR,yEZ⟩,kR,XR _ _,rfl⟩,
    jD (T:=44) 3 rfl Go.Proofs.YtlofhpkoaljmeaaGreat.u40 λa W d=>⟨H,0,wn n,d.o 3 kR,d.b.1.r3.2.1,i40,rfl⟩,
    bJ λa W d=>⟨[(7,jZ o)],jZ o,W,⟨d.o 7 kR,yEZ⟩,kR,XR _ _,rfl⟩,
    jD (T:=44) 21 rfl Go.Proofs.YtlofhpkoaljmeaaGreat.u40 λa W d=>⟨o,0,wn s,d.n 3 21 kR kR,kH d.b.2.2.1,i40,rfl⟩,
    fX λa W d=>⟨[(20,nv n),(22,nv s)],26,#[nv n,nv s],⟨d.n 2 20 kR kR,d.n 4 22 kR kR,yEZ⟩,kR,(gJ A.1 n s A.2.1 hk.out W).mono (by
     rintro e W' ⟨u,rfl,M,rfl⟩;exact⟨_,rfl,M,rfl⟩)⟩,
    bJ λa W d=>⟨[(7,jZ o)],oZ o 4,W,⟨d.o 7 kR,yEZ⟩,kR,XR _ _,rfl⟩,
    jD (T:=51) 24 rfl uCP λa W d=>⟨o,4,aA p,d.n 6 24 kR kR,mL (xs:=wn s) d.b.2.2.1,by rw[aB F.out];exact cV,rfl⟩,
    bJ λa W d=>⟨[(23,nv (sTi N n s)),(25,pvl p)],tvl (sTi N n s) p,W,⟨d.n 5 23 kR kR,d.n 7 25 kR kR,yEZ⟩,by
     rw[Ze.injEq];refine⟨kR,?_⟩;refine Eq.trans (b:=((Instr.build 124 #[(0,nv (sTi N n s)),(1,pvl p)]) >>= λv=>pure (ZS v)).run prog W) kR ?_;rw[X1,VA F.out];rfl,XR _ _,rfl⟩,
    bJ λa W d=>⟨[(18,sZ K l.length l.length),(19,iZ i)],.pointer (some ⟨K,0+37*i,none⟩),W,⟨d.n 0 18 kR kR,d.n 1 19 kR kR,yEZ⟩,by
     rw[Ze.injEq];refine⟨kR,?_⟩;show((Yv 82 (sZ K l.length l.length) (iZ i)) >>= λv=>pure (ZS v)).run prog W=_;rw[X1,atT K 0 (n:=l.length) l.length (i:=i) HL.out];rfl,XR _ _,rfl⟩,yEZ⟩ ⟨F2.2.drew,F2.1⟩ ?_
   intro V W3 M S;have X:V 8=tvl (sTi N n s) p:=M 8 dC;have h7:V 9=.pointer (some ⟨K,0+37*i,none⟩):=M 9 dC;have d:(wn (sTi N n s)++aA p).length=37:=iF F.out;obtain⟨W4,h4⟩:∃W4,Hid (W3.setCells K (37*i) (wn (sTi N n s)++aA p)=W4):=⟨_,rfl⟩
   have K4:Hid (Tz w W4 N n K H (i+1) l):=by
    have h:=S.1.put A.2.2.2.2.2.2 HL.out A.2.2.1;have e:tmT N n (l[i]'HL.out)=(sTi N n s,p):=by
     have h1:=J.out;have h2:=R.out;unfold tmT;rw[h1,h2]
    rw[e]at h;rw[<-h4.out];exact h
   have HT:Hid (W3.there K (37*i) (wn (sTi N n s)++aA p).toArray.size/\(prog.info? 124).map (·.size)=some (wn (sTi N n s)++aA p).toArray.size/\(wn (sTi N n s)++aA p).toArray.all (·.oneCell')=true):=by
    have e:(wn (sTi N n s)++aA p).toArray.size=37:=by rw[YF];exact d
    refine⟨λt ht=>?_,by rw[e];exact iT,?_⟩
    .rw[e]at ht;have:=S.1.th (37*i+t) (by have:=HL.out;omega);rwa[XI]at this
    .rw[ZJ];intro u hu;exact cells_one (a:=p) u (yAI.1 hu)
   dsimp only[bW,YT,yAb,yAd];simp only[Ym,XF,XJ,XL];obtain⟨vz,h6⟩:∃v,Hid (tvl (sTi N n s) p=v):=⟨_,rfl⟩
   rw[X,h7,h6.out,XI];clear M S X h7 d F2;generalize V 0=s0;generalize V 1=s1;generalize V 2=s2;generalize V 3=s3;generalize V 4=s4;generalize V 5=s5;generalize V 6=s6;generalize V 7=s7;go_wp2_with (first|(refine Yk rfl 124 _ _ rfl K (37*i) (wn (sTi N n s)++aA p).toArray ?_ ?_ ?_ ?_ ?_ ?_;rfl;exact h6.symm;exact HT.1;exact HT.2.1;exact HT.2.2;rw[show(wn (sTi N n s)++aA p).toArray.toList=wn (sTi N n s)++aA p from rfl,h4.out])|fail)
   go_roundg (gk-1)
   case measure=>omega
   case rel=>exact⟨i+1,oM,rfl,K4⟩
  .have hm:¬(i:Int)<(l.length:Int):=oM;obtain rfl:i=l.length:=oM;have d:Hid (kZ w wr/\Sm w.heap.size wr (sZ K l.length l.length) (l.map (tmT N n))):=by
    refine⟨P.bl,K,l.length,by rw[XZ],by rw[XZ];exact XD _,A.2.2.2.2.2.2,P.lt,D5 (λx hx=>?_) λj hj=>?_⟩
    .obtain⟨y,o,rfl⟩:=YC.1 hx;obtain⟨z,f,rfl⟩:=YC.1 o;exact A.2.2.1 _ (YC.2 ⟨z,f,rfl⟩)
    .rw[List.getElem_map];rw[XZ]at hj;exact P.rw j hj hj
   clear P;go_wp2;go_ret;exact⟨_,rfl,d.1,d.2⟩
namespace SPA
structure Md(N:Nat)[NeZero N](M:Type) where
 ad:M->M->M
 zo:M
 ac:(Fin N)->M->M
 comm:∀a b,ad a b=ad b a
 assoc:∀a b c,ad (ad a b) c=ad a (ad b c)
 zadd:∀a,ad zo a=a
 acAd:∀r a b,ac r (ad a b)=ad (ac r a) (ac r b)
 adAc:∀r s a,ac (r+s) a=ad (ac r a) (ac s a)
 acAc:∀r s a,ac r (ac s a)=ac (r*s) a
 acOne:∀a,ac 1 a=a
 zac:∀a,ac 0 a=zo
variable {N:Nat}[NeZero N]{M:Type}
namespace Md
variable (D:Md N M)
def VK(a:M):D.ad a D.zo=a:=by rw[D.comm,D.zadd]
def swap(a b c d:M):D.ad (D.ad a b) (D.ad c d)=D.ad (D.ad a c) (D.ad b d):=by
 rw[D.assoc,<-D.assoc b,D.comm b c,D.assoc c,<-D.assoc]
def acz(r:(Fin N)):D.ac r D.zo=D.zo:=by
 have h:=D.zac D.zo;rw[<-h,D.acAc,show r*0=(0:(Fin N)) by grind]
def sm(f:Nat->M):Nat->M
 | 0=>D.zo
 | n+1=>D.ad (sm f n) (f n)
def nM{f g:Nat->M}:∀n,(∀i,i<n->f i=g i)->D.sm f n=D.sm g n
 | 0,_=>rfl
 | n+1,h=>by
  show D.ad _ _=D.ad _ _;rw[nM n λi k=>h i oM,h n oM]
def Cl(f g:Nat->M):∀n,D.sm (λi=>D.ad (f i) (g i)) n=D.ad (D.sm f n) (D.sm g n)
 | 0=>(D.zadd _).symm
 | n+1=>by
  show D.ad _ _=D.ad (D.ad _ _) (D.ad _ _);rw[Cl f g n,D.swap]
def FM(r:(Fin N))(f:Nat->M):∀n,D.sm (λi=>D.ac r (f i)) n=D.ac r (D.sm f n)
 | 0=>(D.acz r).symm
 | n+1=>by
  show D.ad _ _=D.ac r (D.ad _ _);rw[FM r f n,D.acAd]
def Jy(f:Nat->M)(n:Nat):∀m,D.sm f (n+m)=D.ad (D.sm f n) (D.sm (λi=>f (n+i)) m)
 | 0=>(D.VK _).symm
 | m+1=>by
  show D.ad (D.sm f (n+m)) _=D.ad _ (D.ad _ _);rw[Jy f n m,D.assoc];rfl
instance:Std.Associative D.ad:=⟨D.assoc⟩
instance:Std.Commutative D.ad:=⟨D.comm⟩
def dt(a:Nat->(Fin N))(g:Nat->M)(n:Nat):M:=D.sm (λi=>D.ac (a i) (g i)) n
def EM(a:Nat->(Fin N))(g:Nat->M)(n m:Nat):D.dt a g (n+m)=D.ad (D.dt a g n) (D.dt (λi=>a (n+i)) (λi=>g (n+i)) m):=D.Jy _ n m
def EN(x y:(Fin N))(b:x*y=1)(a c:Nat->(Fin N))(g k:Nat->M)(n:Nat):
 D.dt (λi=>x*a i+y*c i) (λi=>D.ad (D.ac y (g i)) (D.ac x (k i))) n
  = D.ad (D.ad (D.ac (x*x) (D.dt a k n)) (D.ad (D.dt a g n) (D.dt c k n))) (D.ac (y*y) (D.dt c g n)):=by
 unfold dt;rw[<-D.FM,<-D.FM,<-D.Cl,<-D.Cl,<-D.Cl];refine D.nM n λi _=>?_
 rw[D.acAd,D.acAc,D.acAc,D.acAc,D.acAc,show(x*a i+y*c i)*y=a i+y*y*c i by grind,show(x*a i+y*c i)*x=x*x*a i+c i by grind,D.adAc,D.adAc]
 ac_rfl
def GO(a c:Nat->(Fin N))(g:Nat->M)(n:Nat):D.dt (λi=>a i+c i) g n=D.ad (D.dt a g n) (D.dt c g n):=by
 unfold dt;rw[<-D.Cl];exact D.nM n λi _=>D.adAc _ _ _
def Qa(r:(Fin N))(a:Nat->(Fin N))(g:Nat->M)(n:Nat):D.dt (λi=>r*a i) g n=D.ac r (D.dt a g n):=by
 unfold dt;rw[<-D.FM];exact D.nM n λi _=>(D.acAc _ _ _).symm
end Md
def own(N:Nat)[NeZero N]:Md N (Fin N) where
 ad:=(·+·)
 zo:=0
 ac:=(·*·)
 comm:=by grind
 assoc:=by grind
 zadd:=by grind
 acAd:=by grind
 adAc:=by grind
 acAc:=by grind
 acOne:=by grind
 zac:=by grind
namespace Md
variable (D:Md N M)
def pr(a b:Nat->(Fin N))(n:Nat):(Fin N):=(own N).dt a b n
def hd(a b:Nat->(Fin N))(g h:Nat->M)(u:M)(n:Nat):M:=D.ad (D.ad (D.dt a g n) (D.dt b h n)) (D.ac (pr a b n) u)
def lf(a b:Nat->(Fin N))(g h:Nat->M)(u:M)(n:Nat):M:=D.hd a (λi=>b (n+i)) (λi=>g (n+i)) h u n
def rt(a b:Nat->(Fin N))(g h:Nat->M)(u:M)(n:Nat):M:=D.hd (λi=>a (n+i)) b g (λi=>h (n+i)) u n
def fS(x y:(Fin N))(n:Nat)(a:Nat->(Fin N))(i:Nat):(Fin N):=x*a i+y*a (n+i)
def fP(x y:(Fin N))(n:Nat)(g:Nat->M)(i:Nat):M:=D.ad (D.ac x (g i)) (D.ac y (g (n+i)))
def halved(x y:(Fin N))(k:x*y=1)(a b:Nat->(Fin N))(g h:Nat->M)(u:M)(n:Nat):
 D.hd (fS x y n a) (fS y x n b) (D.fP y x n g) (D.fP x y n h) u n
  = D.ad (D.ad (D.ac (x*x) (D.lf a b g h u n)) (D.hd a b g h u (n+n))) (D.ac (y*y) (D.rt a b g h u n)):=by
 have c:=D.EN x y k a (λi=>a (n+i)) g (λi=>g (n+i)) n;have d:=D.EN y x (by rw[<-k];grind) b (λi=>b (n+i)) h (λi=>h (n+i)) n;have e3:=(own N).EN x y k a (λi=>a (n+i)) b (λi=>b (n+i)) n;unfold lf rt hd pr;rw[show D.dt (fS x y n a) (D.fP y x n g) n=_ from c,show D.dt (fS y x n b) (D.fP x y n h) n=_ from d,show(own N).dt (fS x y n a) (fS y x n b) n=_ from e3,D.EM,D.EM,(own N).EM];simp only[D.acAd,D.acAc];rw[show(own N).ad ((own N).ad ((own N).ac (x*x) ((own N).dt a (λi=>b (n+i)) n)) ((own N).ad ((own N).dt a b n) ((own N).dt (λi=>a (n+i)) (λi=>b (n+i)) n))) ((own N).ac (y*y) ((own N).dt (λi=>a (n+i)) b n))
  = (x*x*(own N).dt a (λi=>b (n+i)) n+(own N).ad ((own N).dt a b n) ((own N).dt (λi=>a (n+i)) (λi=>b (n+i)) n))+y*y*(own N).dt (λi=>a (n+i)) b n from rfl,D.adAc,D.adAc]
 ac_rfl
def pv{S:Type}(ch:S->M->M->S × (Fin N))(iv:(Fin N)->(Fin N))(u:M):Nat->S->(Nat->(Fin N))->(Nat->(Fin N))->(Nat->M)->(Nat->M)->List (M × M) × (Fin N) × (Fin N)
 | 0,_,a,b,_,_=>([],a 0,b 0)
 | t+1,s,a,b,g,h =>
  let L:=D.lf a b g h u (2^t)
  let T:=D.rt a b g h u (2^t)
  let c:=ch s L T
  let r:=pv ch iv u t c.1 (fS c.2 (iv c.2) (2^t) a) (fS (iv c.2) c.2 (2^t) b) (D.fP (iv c.2) c.2 (2^t) g) (D.fP c.2 (iv c.2) (2^t) h)
  ((L,T) :: r.1,r.2)
def vf{S:Type}(ch:S->M->M->S × (Fin N))(iv:(Fin N)->(Fin N))(u:M)(a b:(Fin N)):List (M × M)->S->M->(Nat->M)->(Nat->M)->Prop
 | [],_,p,g,h=>p=D.ad (D.ad (D.ac a (g 0)) (D.ac b (h 0))) (D.ac (a*b) u)
 | (L,T) :: l,s,p,g,h =>
  let c:=ch s L T
  let x:=c.2
  let y:=iv x
  vf ch iv u a b l c.1 (D.ad (D.ad (D.ac (x*x) L) p) (D.ac (y*y) T)) (D.fP y x (2^l.length) g) (D.fP x y (2^l.length) h)
def Ld(a b:Nat->(Fin N))(g h:Nat->M)(u:M):D.hd a b g h u 1=D.ad (D.ad (D.ac (a 0) (g 0)) (D.ac (b 0) (h 0))) (D.ac (a 0*b 0) u):=by
 show D.ad (D.ad (D.ad D.zo _) (D.ad D.zo _)) (D.ac ((0:(Fin N))+a 0*b 0) u)=_;rw[D.zadd,D.zadd,show(0:(Fin N))+a 0*b 0=a 0*b 0 by grind]
structure Rg(R:Type) where
 l:Nat->R
 m:Nat->R
 s:Nat->R
 q:Nat->R
 Y:Nat->R
 W:Nat->R
 T:Nat->R
 z:R
 x:R
def Rg.Ok(r:Rg (Fin N))(n:Nat):Prop:=∀i,i<n->r.l i*r.m i=0/\r.m i=r.l i-1/\r.Y i*r.W i=1
def Rg.a0(r:Rg (Fin N))(i:Nat):(Fin N):=r.l i-r.z
def Rg.b0(r:Rg (Fin N))(i:Nat):(Fin N):=r.Y i*(r.m i+r.z)+r.z*r.z*r.T i
def Rg.b1(r:Rg (Fin N))(i:Nat):(Fin N):=r.Y i*r.q i
def Rg.a(r:Rg (Fin N))(i:Nat):(Fin N):=r.a0 i+r.s i*r.x
def Rg.b(r:Rg (Fin N))(i:Nat):(Fin N):=r.b0 i+r.b1 i*r.x
def Rg.sY(r:Rg (Fin N))(n:Nat):(Fin N):=(own N).sm r.Y n
def Rg.sT(r:Rg (Fin N))(n:Nat):(Fin N):=(own N).sm r.T n
def Rg.v(r:Rg (Fin N))(n:Nat):(Fin N):=pr r.l r.T n
def Rg.d(r:Rg (Fin N))(n:Nat):(Fin N):=(r.z-r.z*r.z)*r.sY n-r.z*r.z*r.z*r.sT n
def Rg.t1(r:Rg (Fin N))(n:Nat):(Fin N):=pr r.a0 r.b1 n+pr r.s r.b0 n
def Rg.t2(r:Rg (Fin N))(n:Nat):(Fin N):=pr r.s r.b1 n
def wG(a b:Nat->(Fin N))(n:Nat):pr a b (n+1)=pr a b n+a n*b n:=rfl
def Rg.t0(r:Rg (Fin N)):∀n,r.Ok n->pr r.a0 r.b0 n=r.z*r.z*r.v n+r.d n
 | 0,_=>by
  show(0:(Fin N))=r.z*r.z*0+((r.z-r.z*r.z)*0-r.z*r.z*r.z*0);grind
 | n+1,h=>by
  have k:=t0 r n λi f=>h i oM
  obtain⟨c,e,_⟩:=h n oM;have b:r.v (n+1)=r.v n+r.l n*r.T n:=rfl;have d:r.d (n+1)=(r.z-r.z*r.z)*(r.sY n+r.Y n)-r.z*r.z*r.z*(r.sT n+r.T n):=rfl;have e3:r.d n=(r.z-r.z*r.z)*r.sY n-r.z*r.z*r.z*r.sT n:=rfl;rw[wG,k,b,d,e3];unfold Rg.a0 Rg.b0;rw[e]at c⊢;generalize r.v n=A,r.sY n=B,r.sT n=C,r.l n=l,r.Y n=y,r.T n=t,r.z=z at *;grind
def Rg.tt(r:Rg (Fin N)):∀n,pr r.a r.b n=pr r.a0 r.b0 n+r.t1 n*r.x+r.t2 n*r.x*r.x
 | 0=>by
  show(0:(Fin N))=0+(0+0)*r.x+0*r.x*r.x;grind
 | n+1=>by
  have d:=tt r n;have k:r.t1 (n+1)=(pr r.a0 r.b1 n+r.a0 n*r.b1 n)+(pr r.s r.b0 n+r.s n*r.b0 n):=rfl;have b:r.t2 (n+1)=pr r.s r.b1 n+r.s n*r.b1 n:=rfl;have e3:r.t1 n=pr r.a0 r.b1 n+pr r.s r.b0 n:=rfl;have c:r.t2 n=pr r.s r.b1 n:=rfl;rw[wG,d,k,b,e3,c,wG];show _+(r.a0 n+r.s n*r.x)*(r.b0 n+r.b1 n*r.x)=_;generalize pr r.a0 r.b0 n=A,pr r.a0 r.b1 n=B,pr r.s r.b0 n=C,pr r.s r.b1 n=E,r.a0 n=a0,r.b0 n=b0,r.s n=s,r.b1 n=b1,r.x=x;grind
def cm(H G:M)(c r:(Fin N)):M:=D.ad (D.ac c H) (D.ac r G)
def DT(r:Rg (Fin N))(n:Nat)(h:r.Ok n)(H G:M)(k t1 t2:(Fin N)):
 D.cm H G (pr r.a r.b n) (t1*r.x+t2*(r.x*r.x)+r.z*r.z*k)
  = D.ad (D.ad (D.ac (r.z*r.z) (D.cm H G (r.v n) k)) (D.ac (r.d n) H)) (D.ad (D.ac r.x (D.cm H G (r.t1 n) t1)) (D.ac (r.x*r.x) (D.cm H G (r.t2 n) t2))):=by
 rw[r.tt,r.t0 n h];unfold cm;simp only[D.acAd,D.acAc];rw[show r.z*r.z*r.v n+r.d n+r.t1 n*r.x+r.t2 n*r.x*r.x=r.z*r.z*r.v n+r.d n+r.x*r.t1 n+r.x*r.x*r.t2 n by grind,
  show t1*r.x+t2*(r.x*r.x)+r.z*r.z*k=r.x*t1+r.x*r.x*t2+r.z*r.z*k by grind]
 simp only[D.adAc]
 ac_rfl
def yV{a c:Nat->(Fin N)}{g k:Nat->M}(n:Nat)(h:∀i,i<n->D.ac (a i) (g i)=D.ac (c i) (k i)):D.dt a g n=D.dt c k n:=D.nM n h
def Xs(r:Rg (Fin N))(g:Nat->M)(n:Nat):D.dt r.a g n=D.ad (D.ad (D.dt r.l g n) (D.ac r.x (D.dt r.s g n))) (D.dt (λ_=>-r.z) g n):=by
 rw[<-D.Qa,<-D.GO,<-D.GO];refine D.yV n λi _=>?_
 show D.ac (r.l i-r.z+r.s i*r.x) _=_;rw[show r.l i-r.z+r.s i*r.x=r.l i+r.x*r.s i+-r.z by grind]
def Xn(r:Rg (Fin N))(k:Nat->M)(n:Nat)(h:r.Ok n):D.dt r.b (λi=>D.ac (r.W i) (k i)) n
 = D.ad (D.ad (D.dt r.m k n) (D.ac r.x (D.dt r.q k n))) (D.dt (λi=>r.z+r.z*r.z*(r.T i*r.W i)) k n):=by
 rw[<-D.Qa,<-D.GO,<-D.GO];refine D.yV n λi b=>?_
 obtain⟨_,_,c⟩:=h i b;rw[D.acAc];show D.ac ((r.Y i*(r.m i+r.z)+r.z*r.z*r.T i+r.Y i*r.q i*r.x)*r.W i) _=_;rw[show(r.Y i*(r.m i+r.z)+r.z*r.z*r.T i+r.Y i*r.q i*r.x)*r.W i=r.m i+r.x*r.q i+(r.z+r.z*r.z*(r.T i*r.W i)) by
  generalize r.Y i=y,r.W i=w,r.m i=m,r.q i=q,r.T i=t,r.z=z,r.x=x at *;grind]
def Cx(r:Rg (Fin N))(n:Nat)(h:r.Ok n)(G:M)(g k:Nat->M)(U:M)(al b w:(Fin N)):
 D.ad (D.ad (D.ad (D.ad (D.ad (D.ac al G) (D.ad (D.dt r.l g n) (D.dt r.m k n))) (D.ac r.x (D.ad (D.ac b G) (D.ad (D.dt r.s g n) (D.dt r.q k n))))) (D.ac (-(al+b*r.x)) G))
  (D.ad (D.dt (λ_=>-r.z) g n) (D.dt (λi=>r.z+r.z*r.z*(r.T i*r.W i)) k n))) (D.ac (pr r.a r.b n*w) U)
  = D.hd r.a r.b g (λi=>D.ac (r.W i) (k i)) (D.ac w U) n:=by
 unfold hd;rw[D.Xs,D.Xn r k n h,D.acAc];simp only[D.acAd,D.acAc];have e:D.ad (D.ac al G) (D.ad (D.ac (r.x*b) G) (D.ac (-(al+b*r.x)) G))=D.zo:=by
  rw[<-D.adAc,<-D.adAc,show al+(r.x*b+-(al+b*r.x))=(0:(Fin N)) by grind,D.zac]
 generalize D.ac al G=A at *;generalize D.ac (r.x*b) G=B at *;generalize D.ac (-(al+b*r.x)) G=E at *;refine Eq.trans ?_ (D.zadd _);rw[<-e]
 ac_rfl
end Md
end SPA
section
open SPA
variable {P:Nat}[NeZero P]{N:Nat}[NeZero N]
abbrev OnP(P:Nat)[NeZero P]:={p:EC.Pt P // On p}
def aC(C:Fld P)(k:∀r:EC.Pt P,On r->mul N r=none):Md N (OnP P) where
 ad a b:=⟨EC.add a.1 b.1,C.cur.on a.2 b.2⟩
 zo:=⟨none,jB⟩
 ac r a:=⟨mul r.val a.1,cE C.cur a.2 _⟩
 comm a b:=yA4 (C.cur.comm a.2 b.2)
 assoc a b c:=yA4 (C.cur.assoc a.2 b.2 c.2)
 zadd _:=rfl
 acAd r a b:=yA4 (yE C a.2 b.2 _)
 adAc r s a:=yA4 (by
  show mul (r+s).val a.1=_;rw[yDq,mul_mod C k a.2,mul_add C.cur a.2])
 acAc r s a:=yA4 (by
  show _=mul (r*s).val a.1;rw[yAG,mul_mod C k a.2,YK,mQ C.cur a.2])
 acOne a:=yA4 (by
  show mul (1:Fin N).val a.1=_;rw[show(1:Fin N).val=1%N from rfl,mul_mod C k a.2];rfl)
 zac a:=yA4 (by
  show mul (0:Fin N).val a.1=_;rw[show(0:Fin N).val=0%N from rfl,mul_mod C k a.2];rfl)
omit [NeZero N] in
theorem jP(a b:Fin N):(a+b).val=sPl N a.val b.val:=yDq a b
omit [NeZero N] in
theorem eR(a b:Fin N):(a*b).val=sTi N a.val b.val:=yAG a b
omit [NeZero N] in
theorem Ku(a b:Fin N):(a-b).val=sMi N a.val b.val:=by
 rw[Fin.sub_def];show(N-b.val+a.val)%N=(a.val+N-b.val)%N;have:=b.isLt;rw[show N-b.val+a.val=a.val+N-b.val by omega]
omit [NeZero N] in
theorem Es(a:Fin N):(-a).val=sMi N 0 a.val:=by
 rw[Fin.neg_def];show(N-a.val)%N=(0+N-a.val)%N;rw[XI]
def ivF(a:Fin N):Fin N:=⟨sIn N a.val,Y8 _ (yAF N)⟩
def tP{a:Fin N}(h:IsP N)(k:a.val≠0):a*ivF a=1:=by
 apply yA0;have b:=h.1;have hd:¬N ∣ a.val:=λhd=>by
  have:=Nat.le_of_dvd oM hd;have:=a.isLt;omega
 rw[yAG,show(ivF a).val=a.val^(N-2)%N from rfl,Nat.mul_mod_mod,<-Nat.pow_succ',show(N-2).succ=N-1 by omega,h.fermat1 a.val hd];show 1=1%N;rw[X6 oM]
structure Tl(N:Nat)(l:LB)(X:OnP P):Prop where
 pts:PtsL P l
 lt:∀x∈l,x.1<N
 sum:fN P l=X.1
omit [NeZero N] in
theorem Cg(C:Fld P):∀ {l m:LB},PtsL P l->PtsL P m->fN P (l++m)=EC.add (fN P l) (fN P m)
 | [],_,_,_=>rfl
 | x :: r,m,h,hm=>by
  have k:PtsL P r:=λz b=>h z (Yo _ b)
  show EC.add (mul x.1 (gA P x.2)) (fN P (r++m))=EC.add (EC.add _ _) _;rw[Cg C k hm];exact(C.cur.assoc (cE C.cur (h.on C YH) _) (oQ C k) (oQ C hm)).symm
omit [NeZero N] in
theorem FG(C:Fld P)(k:∀r:EC.Pt P,On r->mul N r=none)(n:Nat):∀ {l:LB},PtsL P l->fN P (l.map (tmT N n))=mul n (fN P l)
 | [],_=>(nW n).symm
 | x :: r,h=>by
  have b:PtsL P r:=λz c=>h z (Yo _ c)
  have hx:=h.on C (x:=x) YH;show EC.add (mul (sTi N n x.1) (gA P x.2)) (fN P (r.map (tmT N n)))=mul n (EC.add (mul x.1 (gA P x.2)) (fN P r));rw[FG C k n b,yE C (cE C.cur hx _) (oQ C b)];unfold sTi;rw[mul_mod C k hx,YK,mQ C.cur hx]
section
variable (C:Fld P) (hord:∀r:EC.Pt P,EC.On r->EC.mul N r=none)
def Tl.nil:Tl N [] (aC C hord).zo:=⟨λ_ h=>(Yf h).elim,λ_ h=>(Yf h).elim,rfl⟩
def Tl.app{l m:LB}{X Y:OnP P}(h:Tl N l X)(k:Tl N m Y):Tl N (l++m) ((aC C hord).ad X Y):=
 ⟨λx hx=>(Y9.1 hx).elim (h.pts x) (k.pts x),λx hx=>(Y9.1 hx).elim (h.lt x) (k.lt x),by
  rw[Cg C h.pts k.pts,h.sum,k.sum];rfl⟩
def Tl.tm{l:LB}{X:OnP P}(h:Tl N l X)(n:Fin N):Tl N (l.map (tmT N n.val)) ((aC C hord).ac n X):=
 ⟨λx hx=>by
  obtain⟨y,k,rfl⟩:=YC.1 hx;exact h.pts y k,λx hx=>by
  obtain⟨y,k,rfl⟩:=YC.1 hx;exact Y8 _ (yAF N),by
  rw[FG C hord n.val h.pts,h.sum];rfl⟩
omit [NeZero N] in
theorem Tl.one(C:Fld P)(k:1<N)(X:OnP P):Tl N [(1,wr X.1)] X:=
 ⟨λx hx=>⟨X.1,X.2,by rw[Zj.1 hx]⟩,λx hx=>by rw[Zj.1 hx];exact k,by
  show EC.add (mul 1 (gA P (wr X.1))) none=_;rw[mD C X.2,bK];rfl⟩
def dE(N:Nat)(a:Nat->Nat)(T:Nat->LB):Nat->LB
 | 0=>[]
 | n+1=>dE N a T n++(T n).map (tmT N (a n))
def GQ{a:Nat->Fin N}{T:Nat->LB}{g:Nat->OnP P}:∀n,(∀i,i<n->Tl N (T i) (g i))->Tl N (dE N (λi=>(a i).val) T n) ((aC C hord).dt a g n)
 | 0,_=>Tl.nil C hord
 | n+1,h=>(GQ n λi k=>h i oM).app C hord ((h n oM).tm C hord (a n))
def eY{a:Nat->Nat}(N:Nat){T:Nat->LB}{c:Nat}:∀n,(∀i,i<n->(T i).length=c)->(dE N a T n).length=c*n
 | 0,_=>rfl
 | n+1,h=>by
  show(dE N a T n++_).length=_;rw[XK,XZ,eY N (a:=a) n (λi k=>h i oM),h n oM,yBA]
def mW(N x y n:Nat)(T:Nat->LB)(i:Nat):LB:=(T i).map (tmT N x)++(T (n+i)).map (tmT N y)
def OE{x y:Fin N}{n i:Nat}{T:Nat->LB}{g:Nat->OnP P}(h:∀i,i<n+n->Tl N (T i) (g i))(k:i<n):Tl N (mW N x.val y.val n T i) ((aC C hord).fP x y n g i):=
 ((h i oM).tm C hord x).app C hord ((h (n+i) oM).tm C hord y)
def Ly{T:Nat->LB}{N x y n i c:Nat}(h:∀i,i<n+n->(T i).length=c)(k:i<n):(mW N x y n T i).length=c+c:=by
 unfold mW;rw[XK,XZ,XZ,h i oM,h (n+i) oM]
end
end
section
open SPA
variable {N:Nat}[NeZero N]
def pwF(x:Fin N):Nat->Fin N
 | 0=>1
 | i+1=>pwF x i*x
def Ec{x y:Fin N}(h:x*y=1):∀i,pwF x i*pwF y i=1
 | 0=>by
  show(1:Fin N)*1=1
  grobner
 | i+1=>by
  have k:=Ec h i;show pwF x i*x*(pwF y i*y)=1;generalize pwF x i=a at *;generalize pwF y i=b at *
  grobner
def ofF(N:Nat)[NeZero N](n:Nat):Fin N:=⟨n%N,Y8 _ (yAF N)⟩
def rS(a b:Nat):ofF N (a+b)=ofF N a+ofF N b:=yA0 (by
 rw[yDq];show(a+b)%N=(a%N+b%N)%N;rw[Nat.add_mod])
def Gh(a b:Nat):ofF N (a*b)=ofF N a*ofF N b:=yA0 (by
 rw[yAG];show(a*b)%N=(a%N*(b%N))%N;rw[Nat.mul_mod])
def nU:ofF N 0=0:=yA0 rfl
def Gg:ofF N 1=1:=yA0 rfl
def Eb:∀i,pwF (ofF N 2) i=ofF N (2^i)
 | 0=>Gg.symm
 | i+1=>by
  show pwF (ofF N 2) i*ofF N 2=_;rw[Eb i,<-Gh,Zf]
def btF(N:Nat)[NeZero N](v i:Nat):Fin N:=ofF N (v/2^i%2)
def Mg(v:Nat):∀n,Md.pr (btF N v) (pwF (ofF N 2)) n=ofF N (v%2^n)
 | 0=>by
  rw[Nat.pow_zero,Nat.mod_one];exact nU.symm
 | n+1=>by
  rw[Md.wG,Mg v n,Eb];show _+ofF N _*_=_;rw[<-Gh,<-rS,Zf,Nat.mod_mul,YK (2^n)]
def two_sum:∀n,(SPA.own N).sm (pwF (ofF N 2)) n=ofF N (2^n-1)
 | 0=>nU.symm
 | n+1=>by
  show(SPA.own N).sm _ n+_=_;rw[two_sum n,Eb,<-rS];have:=Nat.pow_pos (n:=n) (show 0<2 by decide);rw[show 2^n-1+2^n=2^(n+1)-1 by rw[Zf];omega]
def Vh(v i:Nat):btF N v i=0\/btF N v i=1:=by
 unfold btF;rcases Nat.mod_two_eq_zero_or_one (v/2^i)with h|h<;>rw[h]
 .exact Ye nU
 .exact X7 Gg
def rgF(v:Nat)(s q:Nat->Fin N)(y k z x:Fin N):Md.Rg (Fin N):=⟨btF N v,λi=>btF N v i-1,s,q,pwF y,pwF k,pwF (ofF N 2),z,x⟩
def JQ{v n:Nat}{s q:Nat->Fin N}{z x y k:Fin N}(h:y*k=1):(rgF v s q y k z x).Ok n:=λi _=>⟨by
 show btF N v i*(btF N v i-1)=0;rcases Vh (N:=N) v i with e|e<;>rw[e]<;>grobner,rfl,Ec h i⟩
def TZ{v n:Nat}{s q:Nat->Fin N}{y k z x:Fin N}(hv:v<2^n):(rgF v s q y k z x).v n=ofF N v:=by
 show Md.pr (btF N v) (pwF (ofF N 2)) n=_;rw[Mg,X6 hv]
def T8{v n:Nat}{s q:Nat->Fin N}{y k z x:Fin N}:(rgF v s q y k z x).d n=(z-z*z)*(SPA.own N).sm (pwF y) n-z*z*z*ofF N (2^n-1):=by
 show _-z*z*z*(SPA.own N).sm (pwF (ofF N 2)) n=_;rw[two_sum];rfl
end
namespace SPA
variable {N:Nat}[NeZero N]{M:Type}
namespace Md
variable (D:Md N M)
def Bu(p:M):D.ad p (D.ac (-1) p)=D.zo:=by
 have h:=D.adAc 1 (-1) p;rw[show(1:(Fin N))+-1=0 by grind,D.zac,D.acOne]at h;exact h.symm
def QK(e p:M):D.ad e (D.ac (-1) p)=D.zo↔p=e:=by
 constructor
 .intro h;have k:D.ad (D.ad e (D.ac (-1) p)) p=D.ad D.zo p:=by rw[h]
  rw[D.assoc,D.comm _ p,D.Bu,D.VK,D.zadd]at k;exact k.symm
 .rintro rfl;exact D.Bu p
def KO{a b c:(Fin N)}(d:a*b=1)(k:a*c=1):b=c:=by
 have:b=(a*b)*c+b*(1-a*c):=by grind
 rw[d,k]at this;grind
structure Vs(S M:Type) where
 s:S
 p:M
 g:Nat->M
 h:Nat->M
structure Ps(S R M:Type) where
 s:S
 a:Nat->R
 b:Nat->R
 g:Nat->M
 h:Nat->M
section
variable {S:Type}(ch:S->M->M->S × (Fin N)) (iv:(Fin N)->(Fin N)) (u:M)
def Fw(n:Nat)(L T:M)(v:Vs S M):Vs S M:=
 let c:=ch v.s L T
 ⟨c.1,D.ad (D.ad (D.ac (c.2*c.2) L) v.p) (D.ac (iv c.2*iv c.2) T),D.fP (iv c.2) c.2 n v.g,D.fP c.2 (iv c.2) n v.h⟩
def vst(t:Nat)(L T:Nat->M)(v:Vs S M):Nat->Vs S M
 | 0=>v
 | i+1=>D.Fw ch iv (2^(t-(i+1))) (L i) (T i) (vst t L T v i)
def pL(n:Nat)(q:Ps S (Fin N) M):M:=D.lf q.a q.b q.g q.h u n
def pT(n:Nat)(q:Ps S (Fin N) M):M:=D.rt q.a q.b q.g q.h u n
def rJ(n:Nat)(q:Ps S (Fin N) M):Ps S (Fin N) M:=
 let c:=ch q.s (D.pL u n q) (D.pT u n q)
 ⟨c.1,fS c.2 (iv c.2) n q.a,fS (iv c.2) c.2 n q.b,D.fP (iv c.2) c.2 n q.g,D.fP c.2 (iv c.2) n q.h⟩
def pst(t:Nat)(q:Ps S (Fin N) M):Nat->Ps S (Fin N) M
 | 0=>q
 | i+1=>D.rJ ch iv u (2^(t-(i+1))) (pst t q i)
def pLi(t:Nat)(q:Ps S (Fin N) M)(i:Nat):M:=D.pL u (2^(t-(i+1))) (D.pst ch iv u t q i)
def pTi(t:Nat)(q:Ps S (Fin N) M)(i:Nat):M:=D.pT u (2^(t-(i+1))) (D.pst ch iv u t q i)
def hdP(n:Nat)(q:Ps S (Fin N) M):M:=D.hd q.a q.b q.g q.h u n
def beside(k:∀s L T,(ch s L T).2*iv (ch s L T).2=1)(t:Nat)(q:Ps S (Fin N) M):∀i,i<=t ->
 D.vst ch iv t (D.pLi ch iv u t q) (D.pTi ch iv u t q) ⟨q.s,D.hdP u (2^t) q,q.g,q.h⟩ i
  = ⟨(D.pst ch iv u t q i).s,D.hdP u (2^(t-i)) (D.pst ch iv u t q i),(D.pst ch iv u t q i).g,(D.pst ch iv u t q i).h⟩
 | 0,_=>rfl
 | i+1,hi=>by
  have b:=beside k t q i oM;show D.Fw ch iv _ _ _ (D.vst ch iv t _ _ _ i)=_;rw[b];have e:2^(t-i)=2^(t-(i+1))+2^(t-(i+1)):=by
   rw[show t-i=t-(i+1)+1 by omega,Zf];omega
  show(⟨_,_,_,_⟩:Vs S M)=⟨(D.rJ ch iv u _ (D.pst ch iv u t q i)).s,D.hdP u _ (D.rJ ch iv u _ (D.pst ch iv u t q i)),(D.rJ ch iv u _ (D.pst ch iv u t q i)).g,(D.rJ ch iv u _ (D.pst ch iv u t q i)).h⟩;unfold pLi pTi;generalize D.pst ch iv u t q i=r;rw[e];have h:=D.halved _ _ (k r.s (D.pL u (2^(t-(i+1))) r) (D.pT u (2^(t-(i+1))) r)) r.a r.b r.g r.h u (2^(t-(i+1)))
  congr 1
  exact h.symm
def MV(a b:(Fin N))(v:Vs S M):Prop:=v.p=D.ad (D.ad (D.ac a (v.g 0)) (D.ac b (v.h 0))) (D.ac (a*b) u)
def found(k:∀s L T,(ch s L T).2*iv (ch s L T).2=1)(t:Nat)(q:Ps S (Fin N) M):
 D.MV u ((D.pst ch iv u t q t).a 0) ((D.pst ch iv u t q t).b 0) (D.vst ch iv t (D.pLi ch iv u t q) (D.pTi ch iv u t q) ⟨q.s,D.hdP u (2^t) q,q.g,q.h⟩ t):=by
 rw[D.beside ch iv u k t q t (XD _),Nat.sub_self];exact D.Ld _ _ _ _ u
end
end Md
end SPA
section
open SPA
variable {N:Nat}[NeZero N]
def UH{x:Fin N}(h:IsP N)(hx:x.val≠0)(k:(x*x).val≠0):ivF (x*x)=ivF x*ivF x:=by
 refine Md.KO (tP h k) ?_;have e:=tP h hx
 grobner
end
section
open SPA
variable {P:Nat}[NeZero P]{N:Nat}[NeZero N]
def Og(a:Fin N):Fin N:=if a=0 then 1 else a
def Oe{a:Fin N}(h:1<N):(Og a).val≠0:=by
 unfold Og;split
 .show 1%N≠0;rw[X6 h];decide
 .rename_i h0
  exact λe=>h0 (yA0 (e.trans (yA6 N).symm))
def kE(k b:List UInt8)(L X Y:Bs):Bs:=vQ (vQ L k X.toList) b Y.toList
def kV(N:Nat)[NeZero N](L:Bs):Fin N:=Og (ofF N (cha N L))
def aW(L:Bs):Bs:=uH L [99,104,97,108,108,101,110,103,101]
def chF(N:Nat)[NeZero N](L:Bs)(X Y:OnP P):Bs × Fin N:=
 let k:=kE [108,101,102,116] [114,105,103,104,116] L (wr X.1) (wr Y.1)
 (aW k,kV N k)
def Ha{L:Bs}(h:1<N):(kV N L).val≠0:=by
 unfold kV;exact Oe h
def OS(L:Bs)(X Y:OnP P):∃k,(chF N L X Y).2=kV N k:=by
 unfold chF;dsimp only;exact⟨_,rfl⟩
def LY(h:IsP N)(L:Bs)(X Y:OnP P):(chF N L X Y).2*ivF (chF N L X Y).2=1:=by
 obtain⟨k,e⟩:=OS (N:=N) L X Y;rw[e];have:=Ha h.1 (L:=k);generalize kV N k=a at *;exact tP h (a:=a) this
def SX(h:IsP N)(L:Bs)(X Y:OnP P):((chF N L X Y).2*(chF N L X Y).2).val≠0:=λe=>by
 have c:=LY h L X Y;have d:(chF N L X Y).2*(chF N L X Y).2=0:=yA0 (e.trans (yA6 N).symm);generalize (chF N L X Y).2=x at *;generalize ivF x=y at *;have b:(1:Fin N)=0:=by grobner
 have k:1%N=0%N:=congrArg Fin.val b;have:=h.1;rw[X6 oM,yA6]at k;exact absurd k dC
def SD(C:Fld P)(k:∀r:EC.Pt P,On r->mul N r=none)(h:IsP N)(u:OnP P)(t:Nat)(q:Md.Ps Bs (Fin N) (OnP P)):
 (aC C k).MV u (((aC C k).pst (chF N) ivF u t q t).a 0) (((aC C k).pst (chF N) ivF u t q t).b 0)
  ((aC C k).vst (chF N) ivF t ((aC C k).pLi (chF N) ivF u t q) ((aC C k).pTi (chF N) ivF u t q) ⟨q.s,(aC C k).hdP u (2^t) q,q.g,q.h⟩ t):=
 (aC C k).found (chF N) ivF u (LY h) t q
end
namespace SPA
variable {N:Nat}[NeZero N]{M:Type}
namespace Md
variable (D:Md N M)
def Jr(a b p:M):D.ad (D.ad p a) b=D.ad (D.ad a p) b:=by ac_rfl
end Md
end SPA
section
open SPA
variable {P:Nat}[NeZero P]{N:Nat}[NeZero N]
def Tl.pt(C:Fld P)(k:∀r:EC.Pt P,On r->mul N r=none)(n:Fin N)(X:OnP P):Tl N [(n.val,wr X.1)] ((aC C k).ac n X):=
 ⟨λx hx=>⟨X.1,X.2,by rw[Zj.1 hx]⟩,λx hx=>by rw[Zj.1 hx];exact n.isLt,by
  show EC.add (mul n.val (gA P (wr X.1))) none=_;rw[mD C X.2,bK];rfl⟩
structure Gd(N n c:Nat)(T:Nat->LB)(g:Nat->OnP P):Prop where
 tl:∀i,i<n->Tl N (T i) (g i)
 len:∀i,i<n->(T i).length=c
section
variable (C:Fld P) (hord:∀r:EC.Pt P,EC.On r->EC.mul N r=none)
def Gd.fold{n c:Nat}{T:Nat->LB}{g:Nat->OnP P}(h:Gd N (n+n) c T g)(x y:Fin N):Gd N n (c+c) (mW N x.val y.val n T) ((aC C hord).fP x y n g):=
 ⟨λi k=>OE C hord h.tl k,λi k=>Ly h.len k⟩
def Gd.cmb{n c:Nat}{T:Nat->LB}{g:Nat->OnP P}(h:Gd N n c T g)(a:Nat->Fin N):Tl N (dE N (λi=>(a i).val) T n) ((aC C hord).dt a g n)/\(dE N (λi=>(a i).val) T n).length=c*n:=
 ⟨GQ C hord n h.tl,eY N n h.len⟩
omit [NeZero N] in
theorem Gd.low{n m c:Nat}{T:Nat->LB}{g:Nat->OnP P}(h:Gd N (n+m) c T g):Gd N n c T g:=⟨λi k=>h.tl i oM,λi k=>h.len i oM⟩
omit [NeZero N] in
theorem Gd.high{n m c:Nat}{T:Nat->LB}{g:Nat->OnP P}(h:Gd N (n+m) c T g):Gd N m c (λi=>T (n+i)) (λi=>g (n+i)):=⟨λi k=>h.tl (n+i) oM,λi k=>h.len (n+i) oM⟩
def KY(N:Nat)(a b:Nat->Nat)(p:Nat)(G H:Nat->LB)(U:LB)(n:Nat):LB:=dE N a G n++dE N b H n++U.map (tmT N p)
def KX{n c d:Nat}{G H:Nat->LB}{U:LB}{g h:Nat->OnP P}{u:OnP P}(hG:Gd N n c G g)(k:Gd N n c H h)(e:Tl N U u)(hd:U.length=d)(a b:Nat->Fin N):
 Tl N (KY N (λi=>(a i).val) (λi=>(b i).val) (Md.pr a b n).val G H U n) ((aC C hord).hd a b g h u n)/\(KY N (λi=>(a i).val) (λi=>(b i).val) (Md.pr a b n).val G H U n).length=c*n+c*n+d:=by
 refine⟨((hG.cmb C hord a).1.app C hord (k.cmb C hord b).1).app C hord (e.tm C hord _),?_⟩;unfold KY;rw[XK,XK,XZ,eY N n hG.len,eY N n k.len,hd]
end
end
def BL(W:XA)(q:Option Y0)(n:Nat)(X:Nat->List UInt8):Prop:=0<n->∃g,q=some (aZ g)/\g<W.heap.size/\∀i,i<n->∃a l c,W.cell? ⟨g,i,none⟩=some (.slice a l c)/\PartOk W (.slice a l c) (X i)
structure Ar(w W:XA)(K e n i:Nat)(R:Nat->List XB):Prop where
 bl:kZ w W
 lt:K<W.heap.size
 th:W.there K 0 (e*n)
 rw:∀j,j<i->W.rangeAt K (e*j) (R j)
def CM{T E:Yd}{e:Nat}(f:prog.underlying T=some (.slice E))(d:(prog.info? E).map (λi=>(i.size,decide (i.bytes<=4000),i.zero.isSome))=some (e,true,true))(n:Nat)(j:n<=512):∃C0:List XB,C0.length=e*n/\∀w:XA,(yAh T (iZ n) (iZ n)).run prog w=.ok (sZ w.heap.size n n) (w.alloc (.cells C0.toArray E)):=by
 obtain⟨i,b,k⟩:=XE.1 d;simp only[Ze.injEq,decide_eq_true_eq]at k;obtain⟨l,m,p⟩:=k;obtain⟨z,c⟩:=YQ.1 p;refine⟨(madeCells z.cells (n*e)).toList,by rw[XU,yBS,YK],λw=>?_⟩;have g:(i.bytes:Int)*(n:Int)<=281474976710656:=by
  have:i.bytes*n<=4000*512:=ZD m j;have o:((i.bytes*n:Nat):Int)<=281474976710656:=oM;rwa[yAm]at o
 have:=run_make (P:=prog) w T E i z f b c .i64 .i64 (n:Int) (n:Int) oM oM g oM;rw[yA9,l]at this;rw[yAE];exact this
def Ar.new{w k:XA}{K e n:Nat}{C0:List XB}{E:Yd}(R:Nat->List XB)(c:C0.length=e*n)(b:w.alloc (.cells C0.toArray E)=k)(d:w.heap.size=K):Ar w k K e n 0 R:=by
 subst d;have hR:Row k w.heap.size C0:=by rw[<-b];exact row_new w _ _
 exact⟨by rw[<-b];exact aD _,hR.1,by rw[<-c];exact hR.2.2,λj f=>absurd f (ZP _)⟩
def D2(O:Ord N)(r:Nat)(L:Bs)(k:ByteArray)(w:XA)(l:k.size<=1048576)(z:hZ w r 0 L)(H:L.size=32):
 cZ 206 #[.agg #[jZ r],.string k] w (Ret λe w'=>SP.Only r 0 32 w w'/\hZ w' r 0 (uH L k.data.toList)/\e=nv (mK N (Dk L k.data.toList 64))):=by
 obtain⟨A,C⟩:=hE (Dk L k.data.toList 64);obtain⟨s,b⟩:=yH (uH L k.data.toList);rw[b.out];have J:s.size=32:=b.out▸aY;have x:A.size=64:=C.out▸IZ;rw[C.out];have q:=Holds.lt z oM;obtain⟨g,c⟩:=yH ((w.alloc (.cells #[jZ r] 157)).alloc (.cells #[uZ 0,uZ 0,uZ 0,uZ 0] 44));have B:Hid (Row g (w.heap.size+1) [uZ 0,uZ 0,uZ 0,uZ 0]/\kZ w g/\hZ g r 0 L):=by
  rw[<-c.out];have d:kZ w ((w.alloc (.cells #[jZ r] 157)).alloc (.cells #[uZ 0,uZ 0,uZ 0,uZ 0] 44)):=(aD _).alloc (by rw[XP];omega) _;have hR:=row_new (w.alloc (.cells #[jZ r] 157)) [uZ 0,uZ 0,uZ 0,uZ 0] 44;rw[XP]at hR;exact⟨hR,d,Holds.below z d q⟩
 clear z;go_enter func206,ntmps206;go_wp2_with fail
 rw[c.out];clear c;apply(Pj r L k 64 g l dC B.2.2 H).mono;rintro e K ⟨I,rfl,M,G,d,o⟩;rw[C.out]at o;rw[b.out]at d;have u:=Holds.lt d oM;have i:=mk4 (B.1.only G oM) ((SP.Only.of_below B.2.1 rfl q).trans G) o d;go_wp2_with fail
 apply(Au O I A x K (Holds.lt i.2.2.1 oM) i.2.2.1).mono;rintro e F ⟨v,rfl,f,rfl⟩;have t:=mk3 (i.1.below f) (i.2.1.trans (SP.Only.of_below f rfl (XC q i.2.1.size))) (Holds.below i.2.2.2 f u);obtain⟨m,E⟩:=hE (mK N A);rw[E.out];obtain⟨D,p⟩:=hE (F.setCells (w.heap.size+1) 0 (wn m));have y:Hid (Row D (w.heap.size+1) (wn m)/\SP.Only r 0 32 w D/\hZ D r 0 s):=by
  rw[<-p.out];refine⟨t.1.put rfl,dT t.2.1 q oM,λj n=>?_⟩;have e:=aE (k:=(w.heap.size+1)) (wn m) 0 F r oM;rw[X4 (a:=⟨r,0+j,none⟩) e,Y2 (a:=⟨r,0+j,none⟩) e];exact t.2.2 j n
 obtain⟨P,n⟩:=hE (nv m);rw[n.out];go_wp2_with (refine Yk rfl 44 _ _ rfl (w.heap.size+1) 0 (wn m).toArray ?_ ?_ ?_ ?_ ?_ ?_;rfl;exact n.symm;exact t.1.2.2;exact i40;exact aI;rw[show(wn m).toArray.toList=wn m from rfl,p.out])
 refine XN (aF 4 rfl y.1 rfl u40 i40) rfl ?_;exact⟨_,rfl,y.2.1,y.2.2,by rw[E.out];rfl⟩
structure Wk(w W:XA)(k7 r:Nat)(L:Bs):Prop where
 bl:kZ w W
 r7:Row W k7 [jZ r]
 lg:hZ W r 0 L
 lr:w.heap.size<=r
 n7:k7≠r
def uS4:prog.underlying 143=some (.slice 44):=kR
def iS4:(prog.info? 44).map (λi=>(i.size,decide (i.bytes<=4000),i.zero.isSome))=some (4,true,true):=kR
section
variable {Q Q':Nat->Prop}{W W':XA}{v:XB}{l:List (Nat × Bs)}{n:Nat}
def Kq.of_only{r o m:Nat}(k:SP.Only r o m W W')(c:∀g,Q g->g≠r):Kq Q W W':=⟨k.size,λg b d=>k.block g d (c g b)⟩
def Kq.range{g o:Nat}{vs:List XB}(h:Kq Q W W')(k:Q g)(b:g<W.heap.size)(d:W.rangeAt g o vs):W'.rangeAt g o vs:=λj v c=>by
 rw[X4 (a:=⟨g,o+j,none⟩) (h.block g k b)];exact d j v c
def Kq.cell{g o:Nat}{x:XB}(h:Kq Q W W')(k:Q g)(b:g<W.heap.size)(c:W.cell? ⟨g,o,none⟩=some x):W'.cell? ⟨g,o,none⟩=some x:=by
 rw[X4 (a:=⟨g,o,none⟩) (h.block g k b)];exact c
def SmQ(Q:Nat->Prop)(W:XA)(v:XB)(l:LB):Prop:=∃g c,v=sZ g l.length c/\l.length<=c/\Q g/\g<W.heap.size/\W.rangeAt g 0 (aP l)
def SmQ.sm(h:SmQ Q W v l):Sm 0 W v l:=by
 obtain⟨g,c,b,d,-,k⟩:=h;exact⟨g,c,b,d,Zl _,k⟩
def Sm.q{B:Nat}(h:Sm B W v l):SmQ (B<=·) W v l:=h
def SmQ.mono(h:SmQ Q W v l)(e:∀g,Q g->Q' g):SmQ Q' W v l:=by
 obtain⟨g,c,d,f,b,k⟩:=h;exact⟨g,c,d,f,e g b,k⟩
def SmQ.keep(h:SmQ Q W v l)(d:Kq Q W W'):SmQ Q W' v l:=by
 obtain⟨g,c,f,i,b,k,e⟩:=h;exact⟨g,c,f,i,b,XC k d.size,d.range b k e⟩
def SLq(Q:Nat->Prop)(W:XA)(v:XB)(n:Nat)(a:Nat->Nat):Prop:=∃g o c,v=qZ g o n c/\n<=c/\Q g/\g<W.heap.size/\∀j,j<n->W.rangeAt g (o+4*j) (wn (a j))
def SLq.mono{a:Nat->Nat}(h:SLq Q W v n a)(e:∀g,Q g->Q' g):SLq Q' W v n a:=by
 obtain⟨g,o,c,d,f,b,k⟩:=h;exact⟨g,o,c,d,f,e g b,k⟩
def SLq.keep{a:Nat->Nat}(h:SLq Q W v n a)(d:Kq Q W W'):SLq Q W' v n a:=by
 obtain⟨g,o,c,i,l,b,k,e⟩:=h;exact⟨g,o,c,i,l,b,XC k d.size,λj f=>d.range b k (e j f)⟩
def SLq.congr{a b:Nat->Nat}(h:SLq Q W v n a)(e:∀j,j<n->a j=b j):SLq Q W v n b:=by
 obtain⟨g,o,c,l,m,i,f,d⟩:=h;exact⟨g,o,c,l,m,i,f,λj k=>by rw[<-e j k];exact d j k⟩
def GLq(Q:Nat->Prop)(W:XA)(v:XB)(n:Nat)(T:Nat->LB):Prop:=∃g o c,v=qZ g o n c/\n<=c/\Q g/\g<W.heap.size/\∀j,j<n->∃x,W.cell? ⟨g,o+j,none⟩=some x/\SmQ Q W x (T j)
def GLq.mono{T:Nat->LB}(h:GLq Q W v n T)(k:∀g,Q g->Q' g):GLq Q' W v n T:=by
 obtain⟨g,o,c,i,p,f,e,d⟩:=h;refine⟨g,o,c,i,p,k g f,e,λj l=>?_⟩;obtain⟨x,m,b⟩:=d j l;exact⟨x,m,b.mono k⟩
def GLq.keep{T:Nat->LB}(h:GLq Q W v n T)(k:Kq Q W W'):GLq Q W' v n T:=by
 obtain⟨g,o,c,l,p,d,b,f⟩:=h;refine⟨g,o,c,l,p,d,XC b k.size,λj i=>?_⟩;obtain⟨x,m,e⟩:=f j i;exact⟨x,k.cell d b m,e.keep k⟩
structure GRq(Q:Nat->Prop)(W:XA)(v:XB)(n:Nat)(G H:Nat->LB)(U:LB):Prop where
 ex:∃vg vh vu,v=.agg #[vg,vh,vu]/\GLq Q W vg n G/\GLq Q W vh n H/\SmQ Q W vu U
def GRq.mono{G H:Nat->LB}{U:LB}(h:GRq Q W v n G H U)(k:∀g,Q g->Q' g):GRq Q' W v n G H U:=by
 obtain⟨c,f,i,e,j,d,b⟩:=h.ex;exact⟨c,f,i,e,j.mono k,d.mono k,b.mono k⟩
def GRq.keep{G H:Nat->LB}{U:LB}(h:GRq Q W v n G H U)(k:Kq Q W W'):GRq Q W' v n G H U:=by
 obtain⟨c,f,g,e,i,d,b⟩:=h.ex;exact⟨c,f,g,e,i.keep k,d.keep k,b.keep k⟩
structure TOk(N:Nat)(l:LB):Prop where
 sz:∀x∈l,x.2.size=33
 lt:∀x∈l,x.1<N
def TOk.szm{N:Nat}(h:TOk N l):∀x∈l.map (·.2),x.size=33:=λx hx=>by
 obtain⟨y,k,rfl⟩:=YC.1 hx;exact h.sz y k
def TOk.app{N:Nat}{m:LB}(h:TOk N l)(k:TOk N m):TOk N (l++m):=⟨λx hx=>(Y9.1 hx).elim (h.sz x) (k.sz x),λx hx=>(Y9.1 hx).elim (h.lt x) (k.lt x)⟩
def TOk.tm{N:Nat}(c:0<N)(h:TOk N l)(k:Nat):TOk N (l.map (tmT N k)):=⟨λx hx=>by
 obtain⟨y,b,rfl⟩:=YC.1 hx;exact h.sz y b,λx hx=>by
 obtain⟨y,b,rfl⟩:=YC.1 hx;exact Y8 _ c⟩
def TOk.nil{N:Nat}:TOk N []:=⟨λ_ h=>(Yf h).elim,λ_ h=>(Yf h).elim⟩
def Tl.ok{P:Nat}[NeZero P]{N:Nat}{X:OnP P}(h:Tl N l X):TOk N l:=⟨λx hx=>by
 obtain⟨X,-,e⟩:=h.pts x hx;rw[e];exact aL _,h.lt⟩
def pQ{N:Nat}(k:0<N){a:Nat->Nat}{T:Nat->LB}:∀n,(∀i,i<n->TOk N (T i))->TOk N (dE N a T n)
 | 0,_=>TOk.nil
 | n+1,h=>(pQ k n λi b=>h i oM).app ((h n oM).tm k _)
end
namespace RG
variable {P:YJ}{ops:Array Yp}{Q:yAM->Act->XA->Prop}{w:XA}{a0:Act}{F:Flow}
def gU{L:Array Bool}{i j:Nat}{o:Yp}(ho:ops[i]? = some o)(k:∀e∈o.after,Zb .any e=true->on L e.on=true)(c:depOn ops i j=true):on L j=true:=by
 unfold depOn at c;rw[ho]at c;obtain⟨e,d,b⟩:=Array.any_eq_true'.1 c;simp only[XV,beq_iff_eq]at b;have:=k e d b.1;rw[b.2]at this;exact this
end RG
namespace RG
structure S1 where
 p:XB->XA->Prop
 st:∀v w w',kZ w w'->p v w->p v w'
def pE(v:XB):S1:=⟨λx _=>x=v,λ_ _ _ _ h=>h⟩
def pA:S1:=⟨λ_ _=>True,λ_ _ _ _ h=>h⟩
def pM(Q:Nat->Prop)(l:LB):S1:=⟨λv w=>SmQ Q w v l,λ_ _ _ k h=>h.keep (Kq.of_below k)⟩
def pS(Q:Nat->Prop)(n:Nat)(a:Nat->Nat):S1:=⟨λv w=>SLq Q w v n a,λ_ _ _ k h=>h.keep (Kq.of_below k)⟩
def pG(Q:Nat->Prop)(n:Nat)(T:Nat->LB):S1:=⟨λv w=>GLq Q w v n T,λ_ _ _ k h=>h.keep (Kq.of_below k)⟩
def pR(Q:Nat->Prop)(n:Nat)(G H:Nat->LB)(U:LB):S1:=⟨λv w=>GRq Q w v n G H U,λ_ _ _ k h=>h.keep (Kq.of_below k)⟩
def pI(T:Yd)(p:S1):S1:=⟨λv w=>∃x,v=.iface T x/\p.p x w,λ_ w w' b ⟨x,k,c⟩=>⟨x,k,p.st x w w' b c⟩⟩
def pN(B:Nat)(cs:List XB):S1:=⟨λv w=>∃k,v=jZ k/\B<=k/\Row w k cs,λ_ _ _ d ⟨k,c,e,b⟩=>⟨k,c,e,b.below d⟩⟩
def nth:List S1->Nat->S1
 | [],_=>pA
 | x :: _,0=>x
 | _ :: r,k+1=>nth r k
def gwL(L:List S1)(B:XA->Prop)(k:∀w w',kZ w w'->B w->B w'):Gw:=⟨λi=>(nth L i).p,B,λi=>(nth L i).st,k⟩
variable {P:YJ}{ops:Array Yp}{Q:yAM->Act->XA->Prop}{w:XA}{a0:Act}{G:Gw}{k:Nat}{o:Yp}
def Lg(b:List (Zw × XB))(v:XB)(e:∀a W,PreG G ops a0 k o a W->AllE a b)(hR:∀W,G.R k v W)(c:∀W,(cJ (b.map (·.1)) o,(Yh (evo (evl b)) o).run P W)=(true,.ok (.value v) W):=by intro _;kernel_rfl):bD P Q G.flow ops a0 k o:=
 bJ λa W d=>⟨b,v,W,e a W d,c W,XR _ _,hR W⟩
def US{t:Zw}{v b:XB}(d:a0.eval (.tmp t)=v)(hR:∀W,G.R k b W)(hf:qE ops k t=true:=by kernel_rfl)(c:∀W,(cJ [t] o,(Yh (evo (evl [(t,v)])) o).run P W)=(true,.ok (.value b) W):=by intro _;kernel_rfl):bD P Q G.flow ops a0 k o:=
 Lg [(t,v)] b (λa W e=>⟨(e.o t hf).trans d,yEZ⟩) hR c
def Lh(j:Nat)(t:Zw)(v b:XB)(d:∀x W,G.R j x W->x=v)(hR:∀W,G.R k b W)(hd:(cO o j,aU ops j)=(true,some t):=by kernel_rfl)(c:∀W,(cJ [t] o,(Yh (evo (evl [(t,v)])) o).run P W)=(true,.ok (.value b) W):=by intro _;kernel_rfl):bD P Q G.flow ops a0 k o:=
 Lg [(t,v)] b (λa W e=>⟨d _ W (e.n j t (congrArg yCa hd) (congrArg yB9 hd)),yEZ⟩) hR c
def EH(j:Nat)(t:Zw)(f:XB->XB)(hR:∀x W,G.R j x W->G.R k (f x) W)(hd:(cO o j,aU ops j)=(true,some t):=by kernel_rfl)(b:∀v W,(cJ [t] o,(Yh (evo (evl [(t,v)])) o).run P W)=(true,.ok (.value (f v)) W):=by intro _ _;kernel_rfl):bD P Q G.flow ops a0 k o:=
 bJ λa W c=>⟨[(t,a.eval (.tmp t))],_,W,⟨rfl,yEZ⟩,b _ W,XR _ _,hR _ W (c.n j t (congrArg yCa hd) (congrArg yB9 hd))⟩
def UR{d:XB}{I:Sem XB}(j:Nat)(t:Zw)(c:Nat)(b:Zw)(v u:XB)(l:∀W,I.run P W=.ok d W)(i:∀x W,G.R j x W->x=v)(f:∀x W,G.R c x W->x=u)(hR:∀W,G.R k d W)(hd:((cO o j,aU ops j),(cO o c,aU ops c))=((true,some t),(true,some b)):=by kernel_rfl)(e:(cJ [t,b] o,Yh (evo (evl [(t,v),(b,u)])) o)=(true,I >>= λv=>pure (ZS v)):=by kernel_rfl):bD P Q G.flow ops a0 k o:=
 bJ λa W g=>⟨[(t,v),(b,u)],d,W,⟨i _ W (g.n j t (congrArg (·.1.1) hd) (congrArg (·.1.2) hd)),f _ W (g.n c b (congrArg (·.2.1) hd) (congrArg (·.2.2) hd)),yEZ⟩,by
  rw[Ze.injEq]at e⊢;refine⟨e.1,?_⟩;rw[e.2,X1,l W];rfl,XR _ _,hR W⟩
def EG{b:XB}{I:Sem XB}(j:Nat)(t:Zw)(v:XB)(f:∀W,I.run P W=.ok b W)(d:∀x W,G.R j x W->x=v)(hR:∀W,G.R k b W)(hd:(cO o j,aU ops j)=(true,some t):=by kernel_rfl)(c:(cJ [t] o,Yh (evo (evl [(t,v)])) o)=(true,I >>= λv=>pure (ZS v)):=by kernel_rfl):bD P Q G.flow ops a0 k o:=
 bJ λa W e=>⟨[(t,v)],b,W,⟨d _ W (e.n j t (congrArg yCa hd) (congrArg yB9 hd)),yEZ⟩,by
  rw[Ze.injEq]at c⊢;refine⟨c.1,?_⟩;rw[c.2,X1,f W];rfl,XR _ _,hR W⟩
def fW{T:Yd}(j:Nat)(t:Zw)(g off:Nat)(x:XB)(f:(P.underlying T).map (·.isRow)=some false)(e:∀x W,G.R j x W->x=oZ g off)(d:∀W,G.B W->W.cell? ⟨g,off,none⟩=some x)(hR:∀W,G.R k x W)(hd:(cO o j,aU ops j)=(true,some t):=by kernel_rfl)(ho:o.op=.load T (.tmp t):=by rfl):bD P Q G.flow ops a0 k o:=
 oH λa W b=>by
  have c:=xX b;refine⟨x,W,?_,XR _ _,hR W⟩;unfold Yh;rw[ho];dsimp only;rw[e _ W (c.n j t (congrArg yCa hd) (congrArg yB9 hd)),X1,eK (d W c.b) f];rfl
def UT{T:Yd}{j g off:Nat}{cs:List XB}(t:Zw)(f:(P.underlying T).map (·.isRow)=some true)(e:(P.info? T).map (·.size)=some cs.length)(d:∀x W,G.R j x W->x=oZ g off)(c:∀W,G.B W->W.rangeAt g off cs)(hR:∀W,G.R k (.agg cs.toArray) W)(hd:(cO o j,aU ops j)=(true,some t):=by kernel_rfl)(ho:o.op=.load T (.tmp t):=by rfl):bD P Q G.flow ops a0 k o:=
 jD t ho f λa W b=>⟨g,off,cs,d _ W (b.n j t (congrArg yCa hd) (congrArg yB9 hd)),c W b.b,e,hR W⟩
def nY{T:Yd}{cs:List XB}(t:Zw)(g off:Nat)(f:(P.underlying T).map (·.isRow)=some true)(e:(P.info? T).map (·.size)=some cs.length)(d:a0.eval (.tmp t)=oZ g off)(c:∀W,G.B W->W.rangeAt g off cs)(hR:∀W,G.R k (.agg cs.toArray) W)(hf:qE ops k t=true:=by kernel_rfl)(ho:o.op=.load T (.tmp t):=by rfl):bD P Q G.flow ops a0 k o:=
 jD t ho f λa W b=>⟨g,off,cs,(b.o t hf).trans d,c W b.b,e,hR W⟩
def Sy{T:Yd}(t:Zw)(g off:Nat)(x:XB)(f:(P.underlying T).map (·.isRow)=some false)(e:a0.eval (.tmp t)=oZ g off)(d:∀W,G.B W->W.cell? ⟨g,off,none⟩=some x)(hR:∀W,G.R k x W)(hf:qE ops k t=true:=by kernel_rfl)(ho:o.op=.load T (.tmp t):=by rfl):bD P Q G.flow ops a0 k o:=
 oH λa W b=>by
  have c:=xX b;refine⟨x,W,?_,XR _ _,hR W⟩;unfold Yh;rw[ho];dsimp only;rw[c.o t hf,e,X1,eK (d W c.b) f];rfl
def tQ(cs:List XB)(T:Yd)(hR:∀W W':XA,Row W' W.heap.size cs->G.B W->G.R k (jZ W.heap.size) W')(b:∀W,(cJ [] o,(Yh (evo (evl [])) o).run P W)=(true,.ok (.value (jZ W.heap.size)) (W.alloc (.cells cs.toArray T))):=by intro _;kernel_rfl):bD P Q G.flow ops a0 k o:=
 bJ λa W c=>⟨[],_,_,trivial,b W,aD _,hR W _ (row_new W cs T) c.b⟩
def P6(f:ZQ)(args:Array XB)(b:∀W,G.B W->YN P f args W (rZ W λe W'=>G.R k e W'))(c:∀W,(cJ [] o,(Yh (evo (evl [])) o).run P W)=(true,.ok (.enter f args) W):=by intro _;kernel_rfl):bD P Q G.flow ops a0 k o:=
 fX λa W d=>⟨[],f,args,trivial,c W,b W d.b⟩
def oC(j:Nat)(t:Zw)(f:ZQ)(args:XB->Array XB)(c:∀x W,G.R j x W->G.B W->YN P f (args x) W (rZ W λe W'=>G.R k e W'))(hd:(cO o j,aU ops j)=(true,some t):=by kernel_rfl)(d:∀x W,(cJ [t] o,(Yh (evo (evl [(t,x)])) o).run P W)=(true,.ok (.enter f (args x)) W):=by intro _ _;kernel_rfl):bD P Q G.flow ops a0 k o:=
 fX λa W b=>⟨[(t,a.eval (.tmp t))],f,_,⟨rfl,yEZ⟩,d _ W,c _ W (b.n j t (congrArg yCa hd) (congrArg yB9 hd)) b.b⟩
def dY(j:Nat)(t:Zw)(c:Nat)(b:Zw)(f:ZQ)(args:XB->XB->Array XB)(g:∀x y W,G.R j x W->G.R c y W->G.B W->YN P f (args x y) W (rZ W λe W'=>G.R k e W'))(hd:((cO o j,aU ops j),(cO o c,aU ops c))=((true,some t),(true,some b)):=by kernel_rfl)(i:∀x y W,(cJ [t,b] o,(Yh (evo (evl [(t,x),(b,y)])) o).run P W)=(true,.ok (.enter f (args x y)) W):=by intro _ _ _;kernel_rfl):bD P Q G.flow ops a0 k o:=
 fX λa W d=>⟨[(t,a.eval (.tmp t)),(b,a.eval (.tmp b))],f,_,⟨rfl,rfl,yEZ⟩,i _ _ W,g _ _ W (d.n j t (congrArg (·.1.1) hd) (congrArg (·.1.2) hd)) (d.n c b (congrArg (·.2.1) hd) (congrArg (·.2.2) hd)) d.b⟩
def nD(j:Nat)(t:Zw)(g:Nat)(d:Zw)(c:Nat)(b:Zw)(f:ZQ)(args:XB->XB->XB->Array XB)(m:∀x y z W,G.R j x W->G.R g y W->G.R c z W->G.B W->YN P f (args x y z) W (rZ W λe W'=>G.R k e W'))(hd:((cO o j,aU ops j),(cO o g,aU ops g),(cO o c,aU ops c))=((true,some t),(true,some d),(true,some b)):=by kernel_rfl)(l:∀x y z W,(cJ [t,d,b] o,(Yh (evo (evl [(t,x),(d,y),(b,z)])) o).run P W)=(true,.ok (.enter f (args x y z)) W):=by intro _ _ _ _;kernel_rfl):bD P Q G.flow ops a0 k o:=
 fX λa W i=>⟨[(t,a.eval (.tmp t)),(d,a.eval (.tmp d)),(b,a.eval (.tmp b))],f,_,⟨rfl,rfl,rfl,yEZ⟩,l _ _ _ W,m _ _ _ W (i.n j t (congrArg (·.1.1) hd) (congrArg (·.1.2) hd)) (i.n g d (congrArg (·.2.1.1) hd) (congrArg (·.2.1.2) hd)) (i.n c b (congrArg (·.2.2.1) hd) (congrArg (·.2.2.2) hd)) i.b⟩
def P5(T:Yd)(j:Nat)(t:Zw)(c:Nat)(b:Zw)(p:S1)(f:ZQ)(i:∀x W,G.R j x W->(pI T p).p x W)(l:∀x y W,p.p x W->G.R c y W->G.B W->YN P f #[x,y] W (rZ W λe W'=>G.R k e W'))(hd:((cO o j,aU ops j),(cO o c,aU ops c))=((true,some t),(true,some b)):=by kernel_rfl)(g:∀x y W,(cJ [t,b] o,(Yh (evo (evl [(t,.iface T x),(b,y)])) o).run P W)=(true,.ok (.enter f #[x,y]) W):=by intro _ _ _;kernel_rfl):bD P Q G.flow ops a0 k o:=
 fX λa W d=>by
  obtain⟨x,e,hx⟩:=i _ W (d.n j t (congrArg (·.1.1) hd) (congrArg (·.1.2) hd));exact⟨[(t,.iface T x),(b,a.eval (.tmp b))],f,_,⟨e,rfl,yEZ⟩,g _ _ W,l _ _ W hx (d.n c b (congrArg (·.2.1) hd) (congrArg (·.2.2) hd)) d.b⟩
end RG
namespace RG
variable {P:YJ}{ops:Array Yp}{Q:yAM->Act->XA->Prop}{w:XA}{a0:Act}{G:Gw}{k:Nat}{o:Yp}{T:Yd}{g off:Nat}{cs:List XB}{v u v' z:XB}{I:Sem XB}{f:ZQ}{t:Zw}
def gO(t:Zw)(v:XB)(c:a0.eval (.tmp t)=v:=by kernel_rfl)(hR:∀W,G.R k v W:=by exact λ_=>rfl)(hf:qE ops k t=true:=by kernel_rfl)(b:∀W,(cJ [t] o,(Yh (evo (evl [(t,v)])) o).run P W)=(true,.ok (.value v) W):=by intro _;kernel_rfl):bD P Q G.flow ops a0 k o:=US c hR hf b
def gP(t:Zw)(v b:XB)(d:a0.eval (.tmp t)=v:=by kernel_rfl)(hR:∀W,G.R k b W:=by exact λ_=>rfl)(hf:qE ops k t=true:=by kernel_rfl)(c:∀W,(cJ [t] o,(Yh (evo (evl [(t,v)])) o).run P W)=(true,.ok (.value b) W):=by intro _;kernel_rfl):bD P Q G.flow ops a0 k o:=US d hR hf c
def gLo(t:Zw)(b:∀W,G.B W->W.rangeAt g off cs)(e:(P.underlying T).map (·.isRow)=some true)(d:(P.info? T).map (·.size)=some cs.length)(c:a0.eval (.tmp t)=oZ g off:=by kernel_rfl)(hR:∀W,G.R k (.agg cs.toArray) W:=by exact λ_=>rfl)(hf:qE ops k t=true:=by kernel_rfl)(ho:o.op=.load T (.tmp t):=by rfl):bD P Q G.flow ops a0 k o:=nY t g off e d c b hR hf ho
def gLr(j:Nat)(t:Zw)(b:∀W,G.B W->W.rangeAt g off cs)(e:(P.underlying T).map (·.isRow)=some true)(d:(P.info? T).map (·.size)=some cs.length)(c:∀x W,G.R j x W->x=oZ g off:=by exact λ_ _ h=>h)(hR:∀W,G.R k (.agg cs.toArray) W:=by exact λ_=>rfl)(hd:(cO o j,aU ops j)=(true,some t):=by kernel_rfl)(ho:o.op=.load T (.tmp t):=by rfl):bD P Q G.flow ops a0 k o:=UT t e d c b hR hd ho
def gX(j:Nat)(t:Zw)(b:Nat)(c:Zw)(g:∀W,I.run P W=.ok v' W)(f:∀x W,G.R j x W->x=v:=by exact λ_ _ h=>h)(d:∀x W,G.R b x W->x=u:=by exact λ_ _ h=>h)(hR:∀W,G.R k v' W:=by exact λ_=>rfl)(hd:((cO o j,aU ops j),(cO o b,aU ops b))=((true,some t),(true,some c)):=by kernel_rfl)(e:(cJ [t,c] o,Yh (evo (evl [(t,v),(c,u)])) o)=(true,I >>= λv=>pure (ZS v)):=by kernel_rfl):bD P Q G.flow ops a0 k o:=UR j t b c v u g f d hR hd e
def gC2(j:Nat)(t:Zw)(b:Nat)(c:Zw)(n:∀W,YN P f #[v,u] W (rZ W λe W'=>e=v'))(p:∀x W,G.R j x W->x=v:=by exact λ_ _ h=>h)(d:∀x W,G.R b x W->x=u:=by exact λ_ _ h=>h)(hR:∀W,G.R k v' W:=by exact λ_=>rfl)(hd:((cO o j,aU ops j),(cO o b,aU ops b))=((true,some t),(true,some c)):=by kernel_rfl)(g:∀x y W,(cJ [t,c] o,(Yh (evo (evl [(t,x),(c,y)])) o).run P W)=(true,.ok (.enter f #[x,y]) W):=by intro _ _ _;kernel_rfl):bD P Q G.flow ops a0 k o:=
 dY j t b c f (λx y=>#[x,y]) (λx y W l m _=>by
  rw[p x W l,d y W m];apply(n W).mono;rintro e W' ⟨a,rfl,i,rfl⟩;exact⟨_,rfl,i,hR W'⟩) hd g
end RG
def OK(s:ByteArray)(w:XA):
 ∃cap w',(convert 9 23 (.string s)).run prog w=.ok (sZ w.heap.size s.size cap) w'/\s.size<=cap/\kZ w w'/\hZ w' w.heap.size 0 s.data/\w.heap.size<w'.heap.size:=by
 have h:=Lib.run_convert_string_bytes (P:=prog) w 9 23 5 s str9 slice22 int5;have b:s.size<=grownCap w s.size 0 5:=by
  unfold grownCap Question.cut;exact Nat.le_add_right _ _
 have l:s.data.size=s.size:=rfl;refine⟨_,_,h,b,?_,?_,by rw[yCd];omega⟩
 .refine⟨?_,?_,?_,?_,λk c=>Lib.bytesWorld_at_old w 5 s k c⟩
  .unfold yBx yBH;rw[yEY dC];rfl
  .unfold yBx yBH;rw[yEY dC];rfl
  .unfold yBx yBH;rw[yEY dC];rfl
  .rw[yCd];omega
 .intro j f;have g:=Lib.bytesWorld_at_new w 5 s;have e:(yAL w 5 s).size=grownCap w s.size 0 5:=by
   unfold yAL;rw[Yl,Array.size_map,X0];omega
  have i:(yAL w 5 s)=(s.data++XT (grownCap w s.size 0 5-s.size) 0).map encB:=by
   unfold yAL;rw[Array.map_append,Array.map_replicate];rfl
  have d:j<(s.data++XT (grownCap w s.size 0 5-s.size) 0).size:=by rw[Yl,X0];omega
  have c:(s.data++XT (grownCap w s.size 0 5-s.size) 0)[j]=s.data[j]!:=by
   rw[Array.getElem_append_left f,getElem!_pos s.data j f]
  constructor
  .unfold YZ;rw[g];simp only[XI];rw[yEY dC,i,Array.getElem?_map,X8 d,yAq,c]
  .unfold Zk;rw[g];simp only[XI,e];simp;omega
section
def hf(n:Nat):Nat:=2^yEg (n-1)
def Lc{n:Nat}(h:2<=n):1<=hf n/\hf n<n/\n<=2*hf n:=by
 unfold hf;have k:n-1≠0:=oM;have d:=Nat.log2_self_le k;have b:=Nat.lt_log2_self (n:=n-1);rw[Zf]at b;have c:=Nat.two_pow_pos (yEg (n-1));omega
def CU(b:Bs):Bs:=iU [108,101,97,102] [b.toList]
def nV(x y:Bs):Bs:=iU [110,111,100,101] [x.toList,y.toList]
section
variable {P:YJ}{ops:Array Yp}{rest:List Yp}{op:Yp}{a:Act}{w:XA}{Q:yAM->Act->XA->Prop}
def qG{c:XB}(v:XB)(k:op.guard=none)(t:Zw)(T:Yd)(ho:op.op=.index T (.const c) (.tmp t))(d:(yBu T c (a.eval (.tmp t))).run P w=.ok v w)(h:wpList P ops Q rest (a.put op.dst v) w):wpList P ops Q (op :: rest) a w:=
 ZL k λK b=>by
  unfold Y3;have:(Yh a.eval op).run P w=.ok (.value v) w:=by
   unfold Yh;rw[ho];show((yBu T c (a.eval (.tmp t))) >>= λv=>pure (ZS v)).run P w=_;rw[X1,d];rfl
  rw[this];exact b _ _ h
end
def BD{s:ByteArray}{y n:Nat}{w:XA}(b:y<s.size)(c:((s[y]'b).toNat)=n):(yBu 9 (.string s) (.int .u8 y)).run prog w=.ok (.int .u8 n) w:=by
 rw[run_index_string (t:=9) (s:=s) (k:=.u8) (i:=(y:Int)) (h:=str9)];subst c;simp[b]
def Ov(x:Nat)(hx:x<1048576)(w:XA):cZ 194 #[uZ x] w λe w'=>e=.returned (iZ (bitLen x:Int))/\w'=w:=by
 have g1:¬(4294967296:Int)<=(x:Int):=oM;by_cases h16:65536<=x
 .have g2:(65536:Int)<=(x:Int):=oM;obtain⟨y,hy⟩:=yH (x/65536);have hy':=hy.out;have hy0:(x:Int)/65536=(y:Int):=oM;have hy1:y<256:=oM;have g3:¬(256:Int)<=(y:Int):=oM;have g4:(y:Int)%256=(y:Int):=oM;have hb:=bitLen_shift x 16 (by show x/65536≠0;omega);have hb':bitLen x=16+bitLen y:=by rw[hb];show 16+bitLen (x/65536)=_;rw[hy']
  have h8:=bitLen_le8 y hy1;have HH:Hid (bitLen x=16+bitLen y/\bitLen y<=8):=⟨hb',h8⟩
  clear hb hb' h8 hy';go_enter func194,ntmps194;go_wp2_with (refine qG (.int .u8 (bitLen y:Int)) rfl 21 9 rfl ?_ ?_;(refine BD (y:=y) (n:=(bitLen y)) ?_ ?_ (w:=w);exact hy1;exact len8tab_get y hy1))
  go_ret;refine⟨congrArg yBG (congrArg (YW Ya) ?_),rfl⟩;have h1:=HH.1;have h2:=HH.2;rw[h1];simp only[wrap64];omega
 .have g2:¬(65536:Int)<=(x:Int):=oM;by_cases h8:256<=x
  .have g3:(256:Int)<=(x:Int):=oM;obtain⟨y,hy⟩:=yH (x/256);have hy':=hy.out;have hy0:(x:Int)/256=(y:Int):=oM;have hy1:y<256:=oM;have g4:(y:Int)%256=(y:Int):=oM;have hb:=bitLen_shift x 8 (by show x/256≠0;omega);have hb':bitLen x=8+bitLen y:=by rw[hb];show 8+bitLen (x/256)=_;rw[hy']
   have h8:=bitLen_le8 y hy1;have HH:Hid (bitLen x=8+bitLen y/\bitLen y<=8):=⟨hb',h8⟩
   clear hb hb' h8 hy';go_enter func194,ntmps194;go_wp2_with (refine qG (.int .u8 (bitLen y:Int)) rfl 21 9 rfl ?_ ?_;(refine BD (y:=y) (n:=(bitLen y)) ?_ ?_ (w:=w);exact hy1;exact len8tab_get y hy1))
   go_ret;refine⟨congrArg yBG (congrArg (YW Ya) ?_),rfl⟩;have h1:=HH.1;have h2:=HH.2;rw[h1];simp only[wrap64];omega
  .have hx1:x<256:=oM;have g3:¬(256:Int)<=(x:Int):=oM;have g4:(x:Int)%256=(x:Int):=oM;have HH:Hid (bitLen x<=8):=bitLen_le8 x hx1;go_enter func194,ntmps194;go_wp2_with (refine qG (.int .u8 (bitLen x:Int)) rfl 21 9 rfl ?_ ?_;(refine BD (y:=x) (n:=(bitLen x)) ?_ ?_ (w:=w);exact hx1;exact len8tab_get x hx1))
   go_ret;refine⟨congrArg yBG (congrArg (YW Ya) ?_),rfl⟩;have h2:=HH.out;simp only[wrap64];omega
def UD(x:Nat)(hx:x<1048576)(w:XA):cZ 153 #[uZ x] w λe w'=>e=.returned (iZ (bitLen x:Int))/\w'=w:=by
 go_enter func153,ntmps153;go_wp2_with fail
 apply(Ov x hx w).mono;rintro e w' ⟨rfl,rfl⟩;go_wp2_with fail
 go_ret;exact⟨rfl,rfl⟩
def Su(n:Nat)(h2:2<=n)(hn:n<=1048576)(w:XA):cZ 97 #[iZ n] w λe w'=>e=.returned (iZ (hf n:Int))/\w'=w:=by
 obtain⟨x,hx⟩:=yH (n-1);have hx':=hx.out;have e1:(n:Int)-1=(x:Int):=oM;have hl:=UD x oM w;obtain⟨k,hk⟩:=yH (yEg x);have hbl:bitLen x=k+1:=by unfold bitLen;rw[yEY oM,hk.out]
 have hk20:k<20:=by rw[<-hk.out];exact(Nat.log2_lt oM).2 oM
 rw[hbl]at hl;have HF:Hid (hf n=2^k):=by show _=_;unfold hf;rw[hx',hk.out]
 clear hx' hbl;go_enter func97,ntmps97;go_wp2_with fail
 refine hl.mono ?_;rintro e w' ⟨rfl,rfl⟩;go_wp2;go_ret;refine⟨congrArg yBG (congrArg (YW Ya) ?_),rfl⟩;have h1:2^k<=2^19:=Nat.pow_le_pow_right dC oM;have h2:((2^k:Nat):Int)=(2:Int)^k:=by simp
 rw[HF.out,<-h2];generalize 2^k=m at h1⊢;show wrap64 _=_;unfold wrap64;omega
end
def J2{w:XA}{r:Nat}{l:List UInt8}{k:List (List UInt8)}(h:hZ w r 0 (iU l k)):PartOk w (sZ r 32 32) (iU l k).toList:=
 ⟨_,r,0,32,iU l k,by rw[bR],rfl,by rw[bR];exact XD _,by rw[bR];decide,X7 ⟨rfl,h⟩⟩
def Aa(w:XA)(v:XB)(b:List UInt8):Prop:=(∃q n c,v=.slice q n c)/\PartOk w v b
def Lists(w:XA)(q:Option Y0)(n:Nat)(S:Nat->Bs):Prop:=0<n->∃k b,q=some ⟨k,b,none⟩/\k<w.heap.size/\∀j,j<n->∃v,w.cell? ⟨k,b+j,none⟩=some v/\Aa w v (S j).toList
def Lists.below{w b:XA}{q:Option Y0}{n:Nat}{S:Nat->Bs}(h:Lists w q n S)(k:kZ w b):Lists b q n S:=λl=>by
 obtain⟨e,c,m,f,i⟩:=h l;refine⟨e,c,m,XC f k.size,λj o=>?_⟩;obtain⟨v,g,d⟩:=i j o;exact⟨v,by rw[k.cell (p:=⟨e,c+j,none⟩) f];exact g,d.1,d.2.below k⟩
def Lists.less{w:XA}{q:Option Y0}{n m:Nat}{S:Nat->Bs}(h:Lists w q n S)(i:m<=n):Lists w q m S:=λf=>by
 obtain⟨c,k,d,e,b⟩:=h oM;exact⟨c,k,d,e,λj g=>b j oM⟩
def Hid.mk2{p:Prop}(h:p):Hid p:=h
def Ii{w:XA}:PartOk w nZ (#[]:Bs).toList:=⟨none,0,0,0,#[],rfl,rfl,XD _,dC,Ye rfl⟩
def fV(n:Nat):Bs:=#[bF n 16777216,bF n 65536,bF n 256,bF n 1]
def LW(k:Bs)(n:Nat):Bs:=iU [99,104,105,108,100] [k.toList,(fV n).toList]
def UG(k:Bs)(l:List UInt8):Bs:=iU [107,101,121] [k.toList,l]
def yY(S:Nat->Nat)(k:Bs):Nat->Bs
 | 0=>k
 | j+1=>LW (yY S k j) (S j)
def zA(S:Nat->Nat)(k:Bs)(n:Nat)(l:List UInt8):Bs:=UG (yY S k n) l
def Io(n:Nat)(m:n<4294967296)(w:XA):cZ 150 #[.int .u32 n] w (rZ w λe w'=>∃r,e=sZ r 4 4/\hZ w' r 0 (fV n)):=by
 have b:(n:Int)/16777216%256=SP.ub (bF n 16777216):=eX;have b0:(n:Int)/16777216=SP.ub (bF n 16777216):=oM;clear b;have b1:(n:Int)/65536%256=SP.ub (bF n 65536):=eX;have o:(n:Int)/256%256=SP.ub (bF n 256):=eX;have l:(n:Int)%256=SP.ub (bF n 1):=rT n;have c:=qT w (bF n 16777216) (bF n 65536) (bF n 256) (bF n 1);have j:Hid (fV n=#[bF n 16777216,bF n 65536,bF n 256,bF n 1]):=rfl;generalize bF n 16777216=d at *;generalize bF n 65536=f at *;generalize bF n 256=i at *;generalize bF n 1=g at *;have k:kZ w (w.alloc (.cells #[.int .u8 (SP.ub d),.int .u8 (SP.ub f),.int .u8 (SP.ub i),.int .u8 (SP.ub g)] 5)):=(XR _ _).alloc (XD _) _;go_enter func150,ntmps150;go_wp2;go_ret;refine⟨_,rfl,k,_,rfl,?_⟩;rw[j.out];exact c
def Du(w:XA)(q:Option Y0)(n:Nat)(S:Nat->Nat):Prop:=(∀j,j<n->S j<4294967296)/\(0<n->∃k b,q=some ⟨k,b,none⟩/\k<w.heap.size/\∀j,j<n->w.cell? ⟨k,b+j,none⟩=some (.int .u32 (S j:Int)))
def Eg{w:XA}{r n:Nat}(h:hZ w r 0 (fV n)):PartOk w (sZ r 4 4) (fV n).toList:=
 ⟨_,r,0,4,fV n,rfl,rfl,XD _,YL rfl,X7 ⟨rfl,h⟩⟩
def TO{q g:Option Y0}{n c f m:Nat}{x y:List UInt8}{w:XA}(k:ByteArray)(d:k.size<=1048576)(hv:PartOk w (.slice q n c) x)(i:PartOk w (.slice g f m) y):
 cZ 46 #[.string k,sZ w.heap.size 2 2] (w.alloc (.cells #[.slice q n c,.slice g f m] 23)) λe w'=>∃r,e=.returned (sZ r 32 32)/\w.heap.size<=r/\kZ w w'/\hZ w' r 0 (iU k.data.toList [x,y]):=by
 have b:=Made.alloc w [.slice q n c,.slice g f m] 23;refine(kO k (some (aZ w.heap.size)) 2 [x,y] _ d (YL rfl) (X7 ⟨_,_,rfl,λj t=>?_⟩)).mono ?_
 .have l:j=0\/j=1:=by simp at t;omega
  rcases l with rfl|rfl
  .exact⟨_,b.range 0 _ rfl,hv.below b.bel⟩
  .exact⟨_,b.range 1 _ rfl,i.below b.bel⟩
 .rintro e u ⟨r,rfl,p,s,o⟩;have l:=b.bel.size;exact⟨r,rfl,XH l p,b.bel.trans (s.mono l),o⟩
def IA(E:Option Y0)(F sc:Nat)(k:Bs)(b:ByteArray)(t:b.size<=65536)(q:Option Y0)(n c:Nat)(S:Nat->Nat)(w:XA)(X:n<=1048576)(L:PartOk w (.slice E F sc) k.toList)(K:Du w q n S):
 cZ 93 #[.slice E F sc,.string b,.slice q n c] w (rZ w λe w'=>∃r,e=sZ r 32 32/\w.heap.size<=r/\hZ w' r 0 (zA S k n b.data.toList)):=by
 have Q:Hid (Du w q n S):=K;have V:Hid (Aa w (.slice E F sc) (yY S k 0).toList):=⟨⟨_,_,_,rfl⟩,L⟩
 clear K L;go_enter func93,ntmps93;go_wp2;go_loopg [7,13] n (λg s7 s13 W=>∃(i:Nat) (v:XB),i+g=n/\v=s7/\s13=iZ i/\Hid (kZ w W/\Aa W v (yY S k i).toList))
 case atStart=>exact⟨0,_,oM,rfl,rfl,XR _ _,V⟩
 case round =>
  obtain⟨i,v,R,rfl,rfl,j⟩:=hrel;obtain⟨J,O,P,rfl⟩:=j.2.1;by_cases I:i<n
  .have G:(i:Int)<(n:Int):=oM;obtain⟨z,B,rfl,s,N⟩:=Q.2 oM;have hv:wr.cell? ⟨z,B+i,none⟩=some (.int .u32 (S i:Int)):=by rw[j.1.cell (p:=⟨z,B+i,none⟩) s];exact N i I
   have T:∀w:XA,(Yv 93 (qZ z B n c) (iZ i)).run prog w=.ok (oZ z (B+i)) w:=λw=>by
    have d:¬(i:Int)<0:=oM;have f:(i:Int)<(n:Int):=oM;go_simp
   have o:=Io (S i) (Q.1 i I) wr;have H:Hid (LW (yY S k i) (S i)=yY S k (i+1)):=rfl;clear N s;generalize S i=x at hv o H;go_wp2_with fail
   refine o.mono ?_;rintro e M ⟨v2,rfl,m,U,rfl,y⟩;have A:=TO ⟨#[99,104,105,108,100]⟩ dC (j.2.2.below m) (Eg y);have D:Hid (kZ w M):=j.1.trans (m.mono j.1.size);clear m y o;go_wp2_with fail
   refine A.mono ?_;rintro e u ⟨C,rfl,l,d,f⟩;have a:Hid (kZ w u/\Aa u (sZ C 32 32) (yY S k (i+1)).toList):=by
    refine⟨D.trans (d.mono D.size),⟨_,_,_,rfl⟩,?_⟩;rw[<-H.out];exact J2 f
   clear l d f A D j;go_wp2;go_roundg (gk-1)
   case measure=>omega
   case rel=>exact⟨i+1,_,oM,rfl,rfl,a⟩
  .have G:¬(i:Int)<(n:Int):=oM;obtain rfl:i=n:=oM;obtain⟨o,D,M,m,s,y,z⟩:=OK b wr;have H:PartOk D (sZ wr.heap.size b.size o) b.data.toList:=⟨_,wr.heap.size,0,o,b.data,rfl,rfl,m,XH t dC,X7 ⟨rfl,y⟩⟩
   have A:=TO ⟨#[107,101,121]⟩ dC (j.2.2.below s) H;have B:Hid (kZ w D):=j.1.trans (s.mono j.1.size);clear s y z m H j;go_wp2_with fail
   refine A.mono ?_;rintro e u ⟨C,rfl,l,d,f⟩;have a:Hid (kZ w u/\w.heap.size<=C/\hZ u C 0 (zA S k i b.data.toList)):=⟨B.trans (d.mono B.size),XH B.size l,f⟩
   clear l d f A B;go_wp2;go_ret;exact⟨_,rfl,a.1,_,rfl,a.2.1,a.2.2⟩
def AP(S:Nat->Nat)(k:Bs)(n:Nat)(l:List UInt8):(zA S k n l).size=32:=by unfold zA UG;exact bR
def KL(q:Option Y0)(n c:Nat)(w:XA):cZ 92 #[.slice q n c] w λe w'=>e=.returned (.bool (decide (n=32)))/\w'=w:=by
 by_cases h:n=32
 .subst h;go_enter func92,ntmps92;go_wp2;go_ret;exact⟨rfl,rfl⟩
 .have k:¬(n:Int)=32:=oM;have b:((n:Int) == 32)=false:=by simpa using k
  rw[decide_eq_false h];go_enter func92,ntmps92;go_wp2;go_ret;exact⟨rfl,rfl⟩
def kdE(k:Bs)(n:Nat):Nat:=if k.size=32 then(if n<=16 then 0 else 1) else 2
def Dv(o:Option Y0)(j sc:Nat)(k:Bs)(d:ByteArray)(l:d.size<=65536)(q:Option Y0)(n c:Nat)(S:Nat->Nat)(w:XA)(a:n<=1048576)(y:PartOk w (.slice o j sc) k.toList)(f:j=k.size)(x:Du w q n S):
 cZ 43 #[.slice o j sc,.string d,.slice q n c] w (rZ w λe w'=>((¬(k.size=32/\n<=16)/\e=.tuple #[nZ,iZ (kdE k n:Int)])\/((k.size=32/\n<=16)/\∃r,e=.tuple #[sZ r 32 32,iZ 0]/\w.heap.size<=r/\hZ w' r 0 (zA S k n d.data.toList)))):=by
 have i:=KL o j sc w;have hd:=IA o j sc k d l q n c S w a y x;clear y x;have A:=Hid.mk2 f;by_cases s:j=32
 .have b:k.size=32:=oM;clear f;rw[decide_eq_true s]at i;subst s;have p:=Hid.mk2 b;clear b;by_cases t:n<=16
  .have g:¬(16:Int)<(n:Int):=oM;go_enter func43,ntmps43;go_wp2_with fail
   refine i.mono ?_;rintro e w' ⟨rfl,rfl⟩;go_wp2_with fail
   refine hd.mono ?_;rintro e z ⟨v2,rfl,m,r,rfl,v,u⟩;have K:Hid (kZ w' z/\w'.heap.size<=r/\hZ z r 0 (zA S k n d.data.toList)):=⟨m,v,u⟩
   clear m v u hd i;go_wp2
   go_ret2
   exact⟨_,rfl,K.1,X7 ⟨⟨p,t⟩,_,rfl,K.2.1,K.2.2⟩⟩
  .have g:(16:Int)<(n:Int):=oM;have hE:kdE k n=1:=by unfold kdE;rw[yEX p.out,yEY t]
   clear hd;go_enter func43,ntmps43;go_wp2_with fail
   refine i.mono ?_;rintro e w' ⟨rfl,rfl⟩;go_wp2
   go_ret2
   exact⟨_,rfl,XR _ _,Ye ⟨λh=>t h.2,by rw[hE];rfl⟩⟩
 .rw[decide_eq_false s]at i;have b:¬k.size=32:=oM;have hE:kdE k n=2:=by unfold kdE;rw[yEY b]
  have p:=Hid.mk2 b;clear hd f b;go_enter func43,ntmps43;go_wp2_with fail
  refine i.mono ?_;rintro e w' ⟨rfl,rfl⟩;go_wp2
  go_ret2
  exact⟨_,rfl,XR _ _,Ye ⟨λh=>p h.1,by rw[hE];rfl⟩⟩
def Oi:Gives 15 #[uZ 1] (nv 1):=by
 intro w;go_enter func15,ntmps15;refine RG.M.enter [(0,.v (uZ 1))] 6 kR ?_;intro a0 d;repeat apply XG
 refine d.T [.m 0] [(0,RG.z 4)] [] [RG.z 4] [0,2] ⟨mk 0 44,yEZ⟩ ?_;intro k f e c;repeat apply XG
 refine c.T [.x (uZ 1),.x (nv 1),.x (nv 1),.u 0] [] [(0,3,wn 1)] [wn 1] [2] ⟨st,st,st,RG.pt i40,yEZ⟩ ?_;intro a2 g b;refine Za<|XN (v:=nv 1) (aH b.st rfl rfl (b.at (s:=(.p 0 0))) u40 i40) b.sl.defers ?_
 exact⟨_,rfl,b.st.bel.below,rfl⟩
def lJ(a:Nat):Nat:=if a=0 then 1 else a
def J9(O:Ord N){a:Nat}(k:a<N):lJ a<N:=by
 unfold lJ;by_cases h:a=0
 .rw[yEX h];have:=O.n2;omega
 .rw[yEY h];exact k
def Gc(O:Ord N){a:Nat}(n:a<N):Gives 123 #[nv a] (nv (lJ a)):=by
 intro w;have f:=XC n O.le;have g:∀w:XA,(binOp .eql 44 (nv a) (nv 0)).run prog w=.ok (.bool (decide (a=0))) w:=λw=>eqS f (show 0<top by unfold top;omega)
 obtain⟨d,hd⟩:=hE (decide (a=0));rw[hd.out]at g;go_enter func123,ntmps123;refine RG.M.enter [(0,.v (nv a))] 8 kR ?_;intro a0 m;repeat apply XG
 refine m.T [.m 0,.m 1] [(0,wn a),(1,RG.z 4)] [] [wn a,RG.z 4] [1,2] ⟨mk 0 44,mk 1 44,yEZ⟩ ?_;intro p t r o j;repeat apply XG
 refine j.U [.x (nv a),.x (nv 0),.x (.bool d)] [1,2,5] ⟨ld u40 i40,st,aX rfl .eql 44 rfl rfl sx sx (λw=>kR) g,yEZ⟩ ?_;intro a2 q b;cases d with
 | true =>
  refine Yy b.ev ?_;have e:=of_decide_eq_true hd;have c:lJ a=1:=by unfold lJ;rw[yEX e]
  rw[c];repeat apply XG
  refine b.T [.c (nv 1),.u 1] [] [(1,1,wn 1)] [wn a,wn 1] [2] ⟨cl Oi,RG.pt i40,yEZ⟩ ?_;intro i l k;refine Za<|XN (v:=nv 1) (aH k.st rfl rfl (k.at (s:=(.p 1 0))) u40 i40) k.sl.defers ?_
  exact⟨_,rfl,k.st.bel.below,rfl⟩
 | false =>
  refine Yb b.ev ?_;have e:=of_decide_eq_false hd;have c:lJ a=a:=by unfold lJ;rw[yEY e]
  rw[c];apply YU;repeat apply XG
  refine b.T [.x (nv a),.u 1] [] [(1,1,wn a)] [wn a,wn a] [2] ⟨ld u40 i40,RG.pt i40,yEZ⟩ ?_;intro i l k;refine Za<|XN (v:=nv a) (aH k.st rfl rfl (k.at (s:=(.p 1 0))) u40 i40) k.sl.defers ?_
  exact⟨_,rfl,k.st.bel.below,rfl⟩
section
section
variable {P:YJ}{ops:Array Yp}{rest:List Yp}{op:Yp}{a:Act}{w w':XA}{v:XB}{Q:yAM->Act->XA->Prop}
def wW{x y:yAe}{b o:Nat}(c:op.guard=none)(k:Yd)(ho:op.op=.store k x y)(v:XB)(hx:a.eval x=oZ b o)(j:a.eval y=v)(hv:v.cells=#[v])(i:v.oneCell'=true)(d:w.there b o 1)(g:(P.info? k).map (·.size)=some 1)(h:wpList P ops Q rest (a.put op.dst Zs) (w.setCells b o [v])):wpList P ops Q (op :: rest) a w:=
 ZL c λ_ l=>by
  have f:=yDw (P:=P) w b o k #[v] d g (by simp[i]);have e:storeVar k ⟨b,o,none⟩ v=storeVar k ⟨b,o,none⟩ (.agg #[v]):=by
   unfold storeVar;rw[hv];rfl
  unfold Y3 Yh;simp only[ho,hx,j,yBE,yA3,X1,Zr,Yz,e,f];exact l _ _ h
def sQ{d:Array Yd}{f:ZQ}{cap:Array XB}{x:XB}(k:op.guard=none)(s t:Zw)(ho:op.op=.call ⟨.value (.tmp s),#[.tmp t],d⟩)(b:a.eval (.tmp s)=.func (.func f) #[] cap)(hx:a.eval (.tmp t)=x)(hf:∀args W,(callFunc f args).run P W=.ok (.enter f args) W){R:XB->XA->Prop}(g:YN P f (#[x]++cap) w (Ret R))(h:∀v w',R v w'->wpList P ops Q rest (a.put op.dst v) w'):wpList P ops Q (op :: rest) a w:=
 ZL k λK i=>by
  have c:(Yh a.eval op).run P w=.ok (.enter f (#[x]++cap)) w:=by
   unfold Yh;rw[ho];have e:(#[yCQ t].map a.eval)=#[x]:=by simp[hx]
   simp only[resolve,b,yC8,X1,Zr,Yz,invoke,e];exact hf _ w
  unfold Y3;rw[c,Oper.upon_enter];refine g.mono ?_;rintro e w' ⟨v,rfl,hR⟩;exact i _ _ (h v w' hR)
end
end
def yD(n:Nat)(m:n<4294967296)(w:XA):cZ 182 #[iZ n] w (rZ w λe w'=>∃r,e=sZ r 4 4/\r<w'.heap.size/\hZ w' r 0 (fV n)):=by
 have b:(n:Int)/16777216%256=SP.ub (bF n 16777216):=eX;have b0:(n:Int)/16777216=SP.ub (bF n 16777216):=oM;clear b;have b1:(n:Int)/65536%256=SP.ub (bF n 65536):=eX;have o:(n:Int)/256%256=SP.ub (bF n 256):=eX;have l:(n:Int)%256=SP.ub (bF n 1):=rT n;have c:=qT w (bF n 16777216) (bF n 65536) (bF n 256) (bF n 1);have j:Hid (fV n=#[bF n 16777216,bF n 65536,bF n 256,bF n 1]):=rfl;generalize bF n 16777216=d at *;generalize bF n 65536=f at *;generalize bF n 256=i at *;generalize bF n 1=g at *;have k:kZ w (w.alloc (.cells #[.int .u8 (SP.ub d),.int .u8 (SP.ub f),.int .u8 (SP.ub i),.int .u8 (SP.ub g)] 5)):=(XR _ _).alloc (XD _) _;go_enter func182,ntmps182;go_wp2;go_ret;refine⟨_,rfl,k,_,rfl,by rw[XP];omega,?_⟩;rw[j.out];exact c
def Bw(a:Bs)(j:a.size=33)(w:XA):YN prog 129 #[pvl a] w (rZ w λe w'=>Sm w.heap.size w' e [(1,a)]):=by
 have l:=Hid.mk' (sL j w);obtain⟨g,f⟩:=hE (w.alloc (.cells (aA a).toArray 51));rw[f.out]at l;have K:Hid (Row g w.heap.size (aA a)/\kZ w g):=by rw[<-f.out];exact⟨row_new w _ _,aD _⟩
 obtain⟨va,d⟩:=hE (pvl a);have i:Hid ((Ys 51 va).run prog w=.ok (jZ w.heap.size) g):=by rw[<-d.out];exact l
 rw[d.out];go_enter func129,ntmps129;go_wp2_with (first|(refine aG (u:=va) (v:=jZ w.heap.size) (w':=g) rfl 51 (.tmp 0) rfl ?_ ?_ ?_;rfl;exact i)|fail)
 refine(gwL [pE (pvl a),pE (nv 1),pM (w.heap.size<=·) [(1,a)],pM (w.heap.size<=·) [(1,a)]] (λW=>Row W w.heap.size (aA a)/\kZ w W) (λW W' c h=>⟨h.1.below c,h.2.trans (c.mono h.2.size)⟩)).draws kR kR ⟨
  nY 1 w.heap.size 0 (cs:=(aA a)) uCP (by rw[aB j];exact cV) rfl (λW b=>b.1.2.1) (λ_=>rfl),
  P6 15 #[uZ 1] λW b=>(Kf W).mono (by
   rintro e W' ⟨u,rfl,c,rfl⟩;exact⟨_,rfl,c,rfl⟩),
  dY 0 3 1 4 32 (λx y=>#[x,y]) λx y W hx n b=>by
   obtain rfl:x=pvl a:=hx;obtain rfl:y=nv 1:=n;apply(lH a j 1 W).mono;rintro e W' ⟨u,rfl,c,k,rfl,m,hR⟩;exact⟨_,rfl,c,Sm.one hR (XH b.2.size m) rfl⟩,
  EH 2 5 id λx W h=>h,yEZ⟩ ⟨K.1,K.2.drew⟩ ?_
 intro V o hR b;have m:=mk1 (hR 3 (Z6 (YL kR)));have n:=mk1 (b.2);dsimp only[bW,YT];go_wp2;go_ret;exact⟨_,rfl,n,m⟩
def u9s:wZ 9:=wQ
def pH(n:Nat)(b:Bs):S1:=⟨λv W=>∃r,v=sZ r n n/\r<W.heap.size/\hZ W r 0 b,λ_ _ _ k ⟨r,e,c,d⟩=>⟨r,e,XC c k.size,Holds.below d k c⟩⟩
noncomputable def hpN (P:Nat) [NeZero P] (lb:ByteArray) (i:Nat):Bs:=wr (.some (hpt P lb (fV i).toList):EC.Pt P)
def KV{lb:ByteArray}{i:Nat}:(hpN P lb i).size=33:=aL _
def Ru(C:Fld P)(lb:ByteArray)(f:lb.size<=1000000)(i:Nat)(A:i<4294967296)(k:Nat)(w:XA)(B:k<w.heap.size)(E:w.cell? ⟨k,0,none⟩=some (.string lb)):
 cZ 183 #[iZ i,jZ k] w (rZ w λe w'=>Sm w.heap.size w' e [(1,hpN P lb i)]):=by
 obtain⟨T,l⟩:=hE (hpN P lb i);have j:T.size=33:=l.out▸KV;rw[l.out];have n:=λ(W:XA) (t:Option Y0) (o q:Nat) (F:PartOk W (.slice t o q) (fV i).toList)=>GZ C lb f t o q (fV i).toList W F
 have a:wr (.some (hpt P lb (fV i).toList):EC.Pt P)=T:=l;rw[a]at n;have z:=Hid.mk' n;have v:=mk1 (E);have d:=Hid.mk' (λW=>yD i A W);go_enter func183,ntmps183;go_wp2_with fail
 refine(gwL [pE (.string lb),pE (iZ i),pH 4 (fV i),pE (pvl T),pM (w.heap.size<=·) [(1,T)],pM (w.heap.size<=·) [(1,T)]] (λW=>W.cell? ⟨k,0,none⟩=some (.string lb)/\kZ w W) (λW W' b h=>⟨by rw[b.cell (p:=⟨k,0,none⟩) (XC B h.2.size)];exact h.1,h.2.trans (b.mono h.2.size)⟩)).draws kR kR ⟨
  Sy 1 k 0 (.string lb) u9s rfl (λW c=>c.1) (λ_=>rfl),
  gO 0 (iZ i),
  oC 1 5 182 (λx=>#[x]) (λx W hx c=>by
   obtain rfl:x=iZ i:=hx;apply(d W).mono;rintro e W' ⟨u,rfl,b,r,rfl,s,m⟩;exact⟨_,rfl,b,r,rfl,s,m⟩),
  dY 0 4 2 6 130 (λx y=>#[x,y]) (λx y W hx D c=>by
   obtain rfl:x=.string lb:=hx;obtain⟨r,rfl,s,m⟩:=D;apply(z W _ _ _ (Eg m)).mono;rintro e W' ⟨u,rfl,b,rfl⟩;exact⟨_,rfl,b,rfl⟩),
  oC 3 7 129 (λx=>#[x]) (λx W hx c=>by
   obtain rfl:x=pvl T:=hx;apply(Bw T j W).mono;rintro e W' ⟨u,rfl,b,m⟩;exact⟨_,rfl,b,m.q.mono λg s=>XH c.2.size s⟩),
  EH 4 8 id (λx W h=>h),yEZ⟩ ⟨v,(XR _ w).drew⟩ ?_
 intro V D hR c;have m:=mk1 (hR 5 (Z6 (YL kR)));have s:=mk1 (c.2);dsimp only[bW,YT];simp only[Ym,XF,XJ,XL];go_wp2;go_ret;exact⟨_,rfl,s,m⟩
def uSu:prog.underlying 148=some (.slice 82):=kR
def iSu:(prog.info? 82).map (λi=>(i.size,decide (i.bytes<=4000),i.zero.isSome))=some (1,true,true):=kR
def UO:gZ 82 1:=gQ
structure LsI(w W:XA)(K n i:Nat)(T:Nat->LB):Prop where
 bl:kZ w W
 lt:K<W.heap.size
 th:W.there K 0 n
 ge:w.heap.size<=K
 el:∀j,j<i->∃x,W.cell? ⟨K,j,none⟩=some x/\SmQ (λg=>w.heap.size<=g/\g≠K) W x (T j)
def LsI.grow{w W W':XA}{K n i:Nat}{T:Nat->LB}(h:LsI w W K n i T)(k:kZ W W'):LsI w W' K n i T:=
 ⟨h.bl.trans (k.mono h.bl.size),XC h.lt k.size,eC h.th k h.lt,h.ge,λj c=>by
  obtain⟨x,b,d⟩:=h.el j c;exact⟨x,by rw[k.cell (p:=⟨K,j,none⟩) h.lt];exact b,d.keep (Kq.of_below k)⟩⟩
def Kq.set{Q:Nat->Prop}{W:XA}{K o:Nat}{vs:List XB}(b:∀g,Q g->g≠K):Kq Q W (W.setCells K o vs):=⟨by rw[setCells_size];exact XD _,λg k _=>aE vs o W g (b g k)⟩
def LsI.put{w W:XA}{K n i:Nat}{T:Nat->LB}{x:XB}(h:LsI w W K n i T)(f:i<n)(hx:SmQ (λg=>w.heap.size<=g/\g≠K) W x (T i)):LsI w (W.setCells K i [x]) K n (i+1) T:=by
 have c:Kq (λg=>w.heap.size<=g/\g≠K) W (W.setCells K i [x]):=Kq.set λg l=>l.2
 refine⟨RG.below_setCells h.ge _ _ _ h.bl,by rw[setCells_size];exact h.lt,Zg h.th _ _ _,h.ge,λj p=>?_⟩;by_cases e:j=i
 .subst e;refine⟨x,?_,hx.keep c⟩;have:=YY W K j [x] (λt b=>by
   have k:t=0:=by simp at b;omega
   subst k;have:=h.th j f;rwa[XI]at this) 0 x rfl
  exact this
 .obtain⟨y,m,o⟩:=h.el j oM;refine⟨y,?_,o.keep c⟩;have d:W.rangeAt K j [y]:=λt u b=>by
   have k:t=0:=by have:=(XM.1 b).1;simp at this;omega
   subst k;obtain rfl:y=u:=by simpa using b
   exact m
  exact Yn d K i [x] (X7 (by simp;omega)) 0 y rfl
def LsI.gl{w W:XA}{K n:Nat}{T:Nat->LB}(h:LsI w W K n n T):GLq (w.heap.size<=·) W (sZ K n n) n T:=
 ⟨K,0,n,rfl,XD _,h.ge,h.lt,λj c=>by
  obtain⟨x,b,d⟩:=h.el j c;exact⟨x,by rw[XI];exact b,d.mono λg k=>k.1⟩⟩
def SmQ.one{Q:Nat->Prop}{W:XA}{v:XB}{l:LB}(h:SmQ Q W v l):v.cells=#[v]/\v.oneCell'=true:=by
 obtain⟨g,c,rfl,-⟩:=h;exact⟨rfl,rfl⟩
def AL(n:Nat)(J:n<=512)(f:ZQ)(cap:Array XB)(hf:∀args W,(callFunc f args).run prog W=.ok (.enter f args) W)(T:Nat->LB)(w:XA)
 (A:∀i W,i<n->kZ w W->cZ f (#[iZ i]++cap) W (rZ W λe W'=>Sm W.heap.size W' e (T i))) :
 cZ 147 #[iZ n,.func (.func f) #[] cap] w (rZ w λe w'=>GLq (w.heap.size<=·) w' e n T):=by
 obtain⟨C0,o,l⟩:=CM uSu iSu n J;have k:=l w;obtain⟨K,u⟩:=yH w.heap.size;obtain⟨r,b⟩:=yH (w.alloc (.cells C0.toArray 82));have v:Ar w r K 1 n 0 (λ_=>[]):=Ar.new _ o b.out u.out;rw[b.out,u.out]at k;have G:Hid (LsI w r K n 0 T):=⟨v.bl,v.lt,by have:=v.th;rwa[ZV]at this,by rw[u.out];exact XD _,λj L=>absurd L (ZP _)⟩
 have C:=Hid.mk' A;have I:=Hid.mk' hf;obtain⟨fv,p⟩:=hE (yCI (.func f) #[] cap);rw[p.out];clear v o l A hf b u;go_enter func147,ntmps147;go_wp2;clear k;go_loopg [11] n (λm s11 W=>∃i:Nat,i+m=n/\s11=iZ i/\Hid (LsI w W K n i T))
 case atStart=>exact⟨0,oM,rfl,G⟩
 case round =>
  obtain⟨i,M,rfl,c⟩:=hrel;by_cases s:i<n
  .have y:(i:Int)<(n:Int):=oM;have x:=atS K 0 n s;rw[show 0+1*i=i by omega]at x;have F:=Hid.mk' s;go_wp2_with (first|(refine sQ rfl 16 17 rfl ?_ ?_ I.out (C i wr F.out c.bl) ?_;exact p.symm;rfl;intro e W' hR;refine yBN ?_)|fail)
   obtain⟨E,D⟩:=hR;have a:=c.grow E;have d:SmQ (λg=>w.heap.size<=g/\g≠K) W' e (T i):=D.q.mono λg H=>⟨XH (XH c.bl.size (XD _)) H,oN c.lt⟩
   have B:=mk1 (a.put s d);have N:Hid (W'.there K i 1):=λt O=>by
    have q:t=0:=oM;subst q;have:=a.th i s;rwa[XI]at this
   have z:=Hid.mk' d.one;obtain⟨P,q⟩:=hE (W'.setCells K i [e]);rw[q.out]at B;show wpList _ _ _ _ _ _;go_wp2_with (first|(refine wW rfl 82 rfl e ?_ ?_ z.1 z.2 N.out UO ?_;rfl;rfl;rw[q.out])|fail)
   go_roundg (gk-1)
   case measure=>omega
   case rel=>exact⟨i+1,oM,rfl,B⟩
  .have y:¬(i:Int)<(n:Int):=oM;obtain rfl:i=n:=oM;have d:=mk2 c.bl c.gl;go_wp2;go_ret;exact⟨_,rfl,d.1,d.2⟩
def uO(C:Fld P)(lb:ByteArray)(d:lb.size<=1000000)(n:Nat)(s:n<=512)(w:XA):
 cZ 128 #[.string lb,iZ n] w (rZ w λe w'=>GLq (w.heap.size<=·) w' e n (λi=>[(1,hpN P lb i)])):=by
 obtain⟨c,b⟩:=hE (w.alloc (.cells #[.string lb] 9));obtain⟨k,m⟩:=hE (w.heap.size);have q:kZ w c:=b.out▸aD _;have hR:Row c k [.string lb]:=b.out▸m.out▸row_new w _ _;have HL:=Hid.mk' (AL n s 183 #[jZ k] (λ_ _=>kR) (λi=>[(1,hpN P lb i)]) c (λi W t l=>Ru C lb d i oM k W (XC hR.1 l.size) (by rw[l.cell (p:=⟨k,0,none⟩) hR.1];exact hR.2.1 0 _ rfl)));have j:=Hid.mk' q;go_enter func128,ntmps128;go_wp2_with fail
 rw[b.out,m.out];refine HL.mono ?_;rintro e u ⟨v,rfl,f,hG⟩;have o:=mk2 (j.trans (f.mono j.size)) (hG.mono λg r=>XH j.size r);go_wp2;go_ret;exact⟨_,rfl,o⟩
noncomputable def hpU (P:Nat) [NeZero P]:Bs:=wr (.some (hpt P ⟨#[105,110,110,101,114]⟩ []):EC.Pt P)
def iGr:gZ 150 3:=gQ
def uGr:yZ 150:=yQ
noncomputable def gGT (P:Nat) [NeZero P] (i:Nat):LB:=[(1,hpN P ⟨#[108,101,102,116]⟩ i)]
noncomputable def hGT (P:Nat) [NeZero P] (i:Nat):LB:=[(1,hpN P ⟨#[114,105,103,104,116]⟩ i)]
noncomputable def uGT (P:Nat) [NeZero P]:LB:=[(1,hpU P)]
def yO(C:Fld P)(n:Nat)(T:n<=512)(w:XA):
 cZ 76 #[iZ n] w (rZ w λe w'=>GRq (w.heap.size<=·) w' e n (gGT P) (hGT P) (uGT P)):=by
 have D:=λW=>uO C ⟨#[108,101,102,116]⟩ dC n T W
 have y:=λW=>uO C ⟨#[114,105,103,104,116]⟩ dC n T W
 have M:=λW:XA=>GZ C ⟨#[105,110,110,101,114]⟩ dC none 0 0 [] W ⟨none,0,0,0,#[],rfl,rfl,XD _,Zl _,Ye rfl⟩
 have Z:wr (.some (hpt P ⟨#[105,110,110,101,114]⟩ []):EC.Pt P)=hpU P:=rfl;rw[Z]at M;have V:=λW=>Bw (hpU P) (aL _) W
 obtain⟨U,A⟩:=yH (hpU P);have X:uGT P=[(1,U)]:=by unfold uGT;rw[A.out]
 rw[X];rw[A.out]at M V;have s:=Hid.mk' (YV D (YV y (YV M V)));have e2:(λi=>[(1,hpN P ⟨#[108,101,102,116]⟩ i)])=gGT P:=rfl;have e3:(λi=>[(1,hpN P ⟨#[114,105,103,104,116]⟩ i)])=hGT P:=rfl;rw[e2,e3]at s;generalize gGT P=G at s⊢;generalize hGT P=H at s⊢;clear D y M V Z X e2 e3 C T;obtain⟨x,a⟩:=yH (w.alloc (.cells #[nZ,nZ,nZ] 150));obtain⟨k,O⟩:=yH w.heap.size;have N:Hid (kZ w x/\Row x k [nZ,nZ,nZ]):=by rw[<-a.out,<-O.out];exact⟨aD _,row_new w _ _⟩
 go_enter func76,ntmps76;go_wp2_with fail
 rw[a.out,O.out];refine(s.1 x).mono ?_;rintro e Q ⟨v1,rfl,E,hG⟩;have B:Hid (kZ w Q/\Row Q k [nZ,nZ,nZ]/\GLq (k < ·) Q v1 n G):=⟨N.1.trans (E.mono N.1.size),N.2.below E,hG.mono λg m=>XC N.2.1 m⟩
 go_wp2_with fail
 refine(s.2.1 Q).mono ?_;rintro e F ⟨v2,rfl,t,hG⟩;have J:Hid (kZ w F/\Row F k [nZ,nZ,nZ]/\GLq (k < ·) F v1 n G/\GLq (k < ·) F v2 n H):=⟨B.1.trans (t.mono B.1.size),B.2.1.below t,B.2.2.keep (Kq.of_below t),hG.mono λg m=>XC B.2.1.1 m⟩
 go_wp2_with fail
 refine(s.2.2.1 F).mono ?_;rintro e K ⟨v,rfl,f,rfl⟩;have u:Hid (kZ w K/\Row K k [nZ,nZ,nZ]/\GLq (k < ·) K v1 n G/\GLq (k < ·) K v2 n H):=⟨J.1.trans (f.mono J.1.size),J.2.1.below f,J.2.2.1.keep (Kq.of_below f),J.2.2.2.keep (Kq.of_below f)⟩
 obtain⟨vu,I⟩:=hE (pvl U);have HO:Hid (∀W:XA,cZ 129 #[vu] W (rZ W λe w'=>Sm W.heap.size w' e [(1,U)])):=by rw[<-I.out];exact s.2.2.2
 rw[I.out];go_wp2_with fail
 refine(HO K).mono ?_;rintro e d ⟨v3,rfl,b,Y⟩;have c:Hid (kZ w d/\Row d k [nZ,nZ,nZ]/\GLq (k < ·) d v1 n G/\GLq (k < ·) d v2 n H/\SmQ (k < ·) d v3 [(1,U)]):=⟨u.1.trans (b.mono u.1.size),u.2.1.below b,u.2.2.1.keep (Kq.of_below b),u.2.2.2.keep (Kq.of_below b),Y.q.mono λg m=>XC u.2.1.1 m⟩
 clear b Y u HO;obtain⟨r,j,c1,rfl,-⟩:=c.2.2.1;obtain⟨p,l,c2,rfl,-⟩:=c.2.2.2.1;obtain⟨q,o,rfl,-⟩:=c.2.2.2.2;obtain⟨z,L⟩:∃z,Hid (d.setCells k 0 [qZ r j n c1,qZ p l n c2,sZ q [(1,U)].length o]=z):=⟨_,Hid.mk' rfl⟩
 have S:Hid (kZ w z/\Row z k [qZ r j n c1,qZ p l n c2,sZ q [(1,U)].length o]/\GRq (w.heap.size<=·) z (.agg #[qZ r j n c1,qZ p l n c2,sZ q [(1,U)].length o]) n G H [(1,U)]):=by
  rw[<-L.out];have R:∀g,k<g->w.heap.size<=g:=λg m=>by rw[O.out];omega
  have kq:Kq (k < ·) d (d.setCells k 0 [qZ r j n c1,qZ p l n c2,sZ q [(1,U)].length o]):=Kq.set λg m=>Nat.ne_of_gt m
  exact⟨RG.below_setCells (by rw[O.out];exact XD _) _ _ _ c.1,c.2.1.put rfl,_,_,_,rfl,(c.2.2.1.keep kq).mono R,(c.2.2.2.1.keep kq).mono R,(c.2.2.2.2.keep kq).mono R⟩
 have R:=mk1 (c.2.1.2.2);go_wp2_with (refine bH (v:=.agg #[qZ r j n c1,qZ p l n c2,sZ q [(1,U)].length o]) (w':=d) rfl (.build 150 _) rfl ?_ ?_;kernel_rfl;refine yBN ?_)
 show wpList _ _ _ _ _ _;refine Yk rfl 150 _ _ rfl k 0 #[qZ r j n c1,qZ p l n c2,sZ q [(1,U)].length o] ?_ ?_ R.out iGr ?_ ?_
 .kernel_rfl
 .kernel_rfl
 .kernel_rfl
 rw[show(#[qZ r j n c1,qZ p l n c2,sZ q [(1,U)].length o]:Array XB).toList=[qZ r j n c1,qZ p l n c2,sZ q [(1,U)].length o] from rfl,L.out];go_wp2;refine XN (aF 2 rfl S.2.1 rfl uGr iGr) rfl ?_;exact⟨_,rfl,S.1,S.2.2⟩
def Xr{n i:Nat}(k o c:Nat)(b:i<n)(w:XA):(Yv 27 (qZ k o n c) (iZ i)).run prog w=.ok (oZ k (o+i)) w:=by
 go_simp
def lY{k o n c i:Nat}(b:i<n)(w:XA):(Yv 143 (qZ k o n c) (iZ i)).run prog w=.ok (oZ k (o+4*i)) w:=by
 go_simp
def WF{N:Nat}(e:N<=512):∃C0:List XB,C0.length=4*N/\∀w:XA,(yAh 143 (iZ N) (iZ N)).run prog w=.ok (sZ w.heap.size N N) (w.alloc (.cells C0.toArray 44)):=by
 have g:prog.underlying 143=some (.slice 44):=kR;have n:(prog.info? 44).map (λi=>(i.size,decide (i.bytes<=4000),i.zero.isSome))=some (4,true,true):=kR;obtain⟨i,b,k⟩:=XE.1 n;simp only[Ze.injEq,decide_eq_true_eq]at k;obtain⟨f,j,d⟩:=k;obtain⟨z,m⟩:=YQ.1 d;refine⟨(madeCells z.cells (N*4)).toList,by rw[XU,yBS,YK],λw=>?_⟩;have l:(i.bytes:Int)*(N:Int)<=281474976710656:=by
  have:i.bytes*N<=4000*512:=ZD j e;have c:((i.bytes*N:Nat):Int)<=281474976710656:=oM;rwa[yAm]at c
 have:=run_make (P:=prog) w 143 44 i z g b m .i64 .i64 (N:Int) (N:Int) oM oM l oM;rw[yA9,f]at this;rw[yAE];exact this
def Xx(N:Nat)(w:XA)(n:Nat)(L:Nat->Bs)(e:XB)(w':XA):Prop:=
 ((∃j,j<n/\rq N (L j)=none)/\kZ w w'/\e=.tuple #[nZ,fZ]) \/
 ((∀j,j<n->(rq N (L j)).isSome=true)/\∃k C,Made w k C w'/\Rows 4 n (λj=>wn ((rq N (L j)).getD 0)) n C/\e=.tuple #[sZ k n n,tZ])
def FiL.made{w W:XA}{K n:Nat}{f:Nat->Nat}(h:FiL 4 w W K n n λj=>wn (f j)):Made w K (tbN f n) W:=⟨h.bl,h.kl,h.lt,λr u k=>by
 have b:=(XM.1 k).1;rw[fQ]at b;have e:4*(r/4)+r%4=r:=oM;rw[<-e,xF f oM n oM]at k;rw[XI,<-e];exact h.at_ (r/4) oM _ u k,by rw[fQ];exact h.th⟩
section
variable {P:YJ}{o:Yp}{ev:yAe->XB}{w:XA}{x:XB}
def BV{b:Array Yd}{s t:Zw}{f:ZQ}(hf:∀args W,(callFunc f args).run P W=.ok (.enter f args) W)(ho:o.op=.call ⟨.value (.tmp s),#[.tmp t],b⟩)(k:ev (.tmp s)=.func (.func f) #[] #[])(hx:ev (.tmp t)=x):(Yh ev o).run P w=.ok (.enter f #[x]) w:=by
 unfold Yh;rw[ho];have e:(#[yCQ t].map ev)=#[x]:=by simp[hx]
 simp only[resolve,k,yC8,X1,Zr,Yz,invoke,e];rw[show(#[]:Array XB)++#[x]=#[x] from rfl]<;>exact hf _ _
end
def Ve:∀args W,(callFunc 11 args).run prog W=.ok (.enter 11 args) W:=λ_ _=>kR
def O9(O:Ord N)(n cap:Nat)(hn:n<=512)(q:Option Y0)(L:Nat->Bs)(w:XA)(J:Args w q n L):YN prog 161 #[(.func (.func 11) #[] #[]),.slice q n cap] w (Ret λe w'=>Xx N w n L e w'):=by
 obtain⟨C0,x,o⟩:=WF (N:=n) hn;refine hG w.heap.size λK I=>?_
 refine hG (w.alloc (.cells C0.toArray 44)) λw1 b=>?_
 have mk:=o w;rw[I.out,b.out]at mk;obtain⟨f,hf⟩:=hE (λj=>(rq N (L j)).getD 0);have T:=mk1 (FiL.new (C:=λj=>wn (f j)) I b x);have HA:=mk1 J;clear o J x I b;go_enter func161,ntmps161;refine PW.rg [.slice none 0 0,.bool false] ?_;refine PW.bg [iZ n] ?_;refine PW.ns mk ?_;refine PW.en [sZ K n n] ?_;refine XG<|PW.rg [iZ n,iZ 0] ?_
 apply YX;go_loopg [16] n (λgk s16 wr=>∃i:Nat,i+gk=n/\s16=iZ i/\Hid (FiL 4 w wr K n i (λj=>wn (f j))/\∀j,j<i->(rq N (L j)).isSome=true))
 case atStart=>exact⟨0,oM,rfl,T,λj A=>absurd A (ZP _)⟩
 case round =>
  clear T;obtain⟨i,h0,rfl,F⟩:=hrel;refine PW.rg [.bool (decide ((i:Int)<(n:Int)))] ?_;by_cases s:i<n
  .have c:(i:Int)<(n:Int):=oM;rw[decide_eq_true c];have H:Ya.wrap ((i:Int)+1)=((i+1:Nat):Int):=by rw[YD];omega
   obtain⟨g,rfl,hg,U⟩:=HA oM;obtain⟨v,hv,l⟩:=U i s;have y:=(F.1.bl.cell (p:=⟨g,i,none⟩) hg).trans hv;have E:=vZ O (v:=v) (k:=(L i)) (w:=wr) (l.below F.1.bl);rw[show(rq N (L i)).getD 0=f i by rw[<-hf.out]]at E;obtain⟨V,n1,c1,rfl,-⟩:=id l;obtain⟨vz,k⟩:=hE (nv (f i));rw[k.out]at E;refine XG<|Yy rfl<|YU<|XG<|YX<|PW.bg [] ?_
   have G:=Xr g 0 (n:=n) cap (i:=i) s wr;rw[XI]at G;refine PW.ns G ?_;refine PW.ce y uBb ?_;refine PW.en [iZ i,.slice V n1 c1] ?_;clear y U G;refine PW.bg [] ?_;refine PW.ca E ?_ rfl rfl (BV Ve rfl rfl rfl);rintro e B ⟨W,rfl⟩;have t:=mk2 (F.1.grow W) F.2;refine hG B.heap.size λk9 d=>?_
   refine hG (B.alloc (.cells (wn 0).toArray 44)) λX z=>?_
   refine hG (X.setCells k9 0 (wn (f i))) λQ m=>?_
   have S:=mk1 ((Mp.start B).new d z);have D:=mk1 (S.put 0 m);refine PW.go [vz,.bool (rq N (L i)).isSome] ?_;refine PW.al d z ?_;refine PW.st m k (S.th 0) i40 kR ?_;refine PW.en [.bool (rq N (L i)).isSome] ?_;cases a:(rq N (L i)).isSome with
   | false =>
    refine XG<|PW.rg [.bool true] ?_
    refine Yy rfl<|PW.rg [.slice none 0 0,.bool false] ?_
    refine Za<|XN (dJ 4 5 rfl rfl rfl) rfl ?_
    exact⟨_,rfl,Ye ⟨⟨i,s,Option.not_isSome_iff_eq_none.1 (by rw[a];exact Bool.false_ne_true)⟩,t.1.bl.trans (D.bl.mono t.1.bl.size),rfl⟩⟩
   | true =>
    refine hG (Q.setCells K (4*i) (wn (f i))) λZ u=>?_
    obtain⟨th,R⟩:=(t.1.grow D.bl).put s rfl (λ_ _=>rfl) u;have Y:Hid (FiL 4 w Z K n (i+1) (λj=>wn (f j))/\∀j,j<i+1->(rq N (L j)).isSome=true):=⟨R,λj A=>by
     by_cases h:j<i
     .exact t.2 j h
     .obtain rfl:j=i:=oM;exact a⟩
    clear R F t;refine XG<|PW.rg [.bool false] ?_
    refine Yb rfl<|YU<|PW.bb [] ?_
    refine PW.ro (D.at_ 0).2.1 k u40 i40 ?_;have M:=lY (k:=K) (o:=0) (n:=n) (c:=n) (i:=i) s Q;rw[XI]at M;refine PW.ns M ?_;refine PW.st u k th i40 kR ?_;refine PW.dn ?_;refine PW.bb [iZ (Ya.wrap ((i:Int)+1))] ?_;rw[H];go_wp2;go_roundg (gk-1)
    case measure=>omega
    case rel=>exact⟨i+1,oM,rfl,Y⟩
  .have c:¬(i:Int)<(n:Int):=oM;obtain rfl:i=n:=oM;rw[decide_eq_false c];refine XG<|Yb rfl<|yAC<|PW.rg (P:=prog) [sZ K i i,.bool true] ?_
   refine Za<|XN (dJ 4 5 rfl rfl rfl) rfl ?_
   rw[<-hf.out]at F;exact⟨_,rfl,X7 ⟨F.2,K,_,F.1.made,⟨fQ _ _,λj r A a=>xF _ a _ A⟩,rfl⟩⟩
def prS(N:Nat)(a b:Nat->Nat):Nat->Nat
 | 0=>0
 | i+1=>sPl N (prS N a b i) (sTi N (b i) (a i))
def Bq{a b:Nat->Nat}(k:0<N):∀i,prS N a b i<N
 | 0=>k
 | _+1=>Y8 _ k
def aR{W:XA}{k K o:Nat}{vs us:List XB}(h:Row W k vs)(b:k≠K):Row (W.setCells K o us) k vs:=aQ h (by rw[setCells_size];exact XD _) (aE us o W k b)
def BN(O:Ord N){Q:Nat->Prop}(n:Nat)(hn:n<=512)(a b:Nat->Nat)(U:∀i,i<n->a i<N)(c:∀i,i<n->b i<N)(va D:XB)(w:XA)(h1:SLq Q w va n a)(h2:SLq Q w D n b):
 YN prog 87 #[va,D] w (rZ w λe w'=>e=nv (prS N a b n)):=by
 obtain⟨g1,Y,c1,rfl,-,-,J,u⟩:=h1;obtain⟨g2,Z,c2,rfl,-,-,M,t⟩:=h2;refine hG w.heap.size λz m=>?_
 refine hG (w.alloc (.cells (wn 0).toArray 44)) λR g=>?_
 refine hG R.heap.size λE l=>?_
 refine hG (R.alloc (.cells (wn 0).toArray 44)) λw2 j=>?_
 have S:Hid (Mp w w2 [(z,wn 0),(E,wn (prS N a b 0))] []):=((Mp.start w).new m g).new l j;have F:=mk4 U c u t;clear U c u t;go_enter func87,ntmps87;refine PW.bg [] ?_;refine PW.al m g ?_;refine PW.dn ?_;refine PW.bg [] ?_;refine PW.al l j ?_;refine PW.dn ?_;refine XG ?_;refine PW.rg [iZ n,iZ 0] ?_;refine YX ?_;clear g j m l;go_loopg [10] n (λgk s10 wr=>∃i:Nat,i+gk=n/\s10=iZ i/\Hid (Mp w wr [(z,wn 0),(E,wn (prS N a b i))] []))
 case atStart=>exact⟨0,oM,rfl,S⟩
 case round =>
  clear S;obtain⟨i,h0,rfl,K⟩:=hrel;refine PW.rg [.bool (decide ((i:Int)<(n:Int)))] ?_;by_cases p:i<n
  .have o:(i:Int)<(n:Int):=oM;rw[decide_eq_true o];have L:Ya.wrap ((i:Int)+1)=((i+1:Nat):Int):=by rw[YD];omega
   have V:=gJ O (b i) (a i) (F.out.2.1 i p) (F.out.1 i p);have G:=mJ O (prS N a b i) (sTi N (b i) (a i)) (Bq O.pos (a:=a) (b:=b) i) (Y8 _ O.pos);rw[show sPl N (prS N a b i) (sTi N (b i) (a i))=prS N a b (i+1) from rfl]at G;obtain⟨va,f⟩:=hE (nv (a i));obtain⟨D,C⟩:=hE (nv (b i));obtain⟨vt,B⟩:=hE (nv (sTi N (b i) (a i)));obtain⟨T,k⟩:=hE (nv (prS N a b i));obtain⟨vr,v⟩:=hE (nv (prS N a b (i+1)));rw[C.out,f.out,B.out]at V;rw[k.out,B.out,v.out]at G;refine hG wr.heap.size λX A=>?_
   refine hG (wr.alloc (.cells (wn 0).toArray 44)) λI d=>?_
   refine hG (I.setCells X 0 (wn (a i))) λw4 y=>?_
   have q:=mk1 (K.out.new A d);have r:=mk1 (q.out.put 2 y);refine XG ?_;refine Yy rfl ?_;refine YU ?_;refine XG ?_;refine YX ?_;refine PW.bg [] ?_;refine PW.ns (lY (k:=g1) (o:=Y) (n:=n) (c:=c1) (i:=i) p wr) ?_;refine PW.ro (RG.range_below (F.out.2.2.1 i p) K.out.bl J) f u40 i40 ?_;refine PW.al A d ?_;refine PW.go [iZ i] ?_;refine PW.st y f (q.out.th 2) i40 aI ?_;refine PW.dn ?_;refine AW.begin 10 10 ?_;refine AW.ro 0 (λW c=>((r.out.at_ 1).below c).2.1) k u40 i40 ?_;refine AW.va 1 (.iface 44 T) ?_;refine AW.mv 2 ?_;refine AW.mv 3 ?_;refine AW.iv 4 (lY (k:=g2) (o:=Z) (n:=n) (c:=c2) (i:=i) p) ?_;refine AW.ro 5 (λW c=>RG.range_below (F.out.2.2.2 i p) (r.out.bl.trans (c.mono r.out.bl.size)) M) C u40 i40 ?_;refine AW.va 6 (.iface 44 D) ?_;refine AW.ro 7 (λW c=>((r.out.at_ 2).below c).2.1) f u40 i40 ?_;refine AW.gi 8 (λ_=>V _) λW1 _=>?_
   refine AW.gi 9 (λ_=>G _) λW2 _=>?_
   refine AW.fi (us:=wn (prS N a b (i+1))) v aI i40 (λc=>?_);have H:=r.out.grow c;obtain⟨W3,s⟩:=hE (W2.setCells E 0 (wn (prS N a b (i+1))));have K6:=mk1 (Mp.pop (rs:=[(z,wn 0),(E,wn (prS N a b (i+1)))]) (x:=(X,wn (a i))) (H.put 1 s));rw[s.out];refine⟨H.th 1,?_⟩;clear K q r H c;refine PW.bb [iZ (Ya.wrap ((i:Int)+1))] ?_;rw[L];go_wp2;go_roundg (gk-1)
   case measure=>omega
   case rel=>exact⟨i+1,oM,rfl,K6⟩
  .have o:¬(i:Int)<(n:Int):=oM;obtain rfl:i=n:=oM;rw[decide_eq_false o];obtain⟨T,k⟩:=hE (nv (prS N a b i));refine hG (wr.setCells z 0 (wn (prS N a b i))) λI d=>?_
   have q:=mk1 (K.out.put 0 d);refine XG ?_;refine Yb rfl ?_;refine yAC ?_;refine PW.bg (P:=prog) [] ?_;refine PW.ro (K.out.at_ 1).2.1 k u40 i40 ?_;refine PW.st d k (K.out.th 0) i40 aI ?_;refine PW.dn ?_;refine Za ?_;refine XN (aF 4 (T:=44) rfl (show Row I z (wn (prS N a b i)) from q.out.at_ 0) rfl u40 i40) rfl ?_;exact⟨_,rfl,q.out.bl,rfl⟩
def Bc:wZ 82:=wQ
structure CbM(w W:XA)(v:XB)(l:LB):Prop where
 bl:kZ w W
 sm:SmZ w.heap.size W v l
def CbM.grow{w W W':XA}{v:XB}{l:LB}(h:CbM w W v l)(k:kZ W W'):CbM w W' v l:=⟨h.bl.trans (k.mono h.bl.size),h.sm.grow k⟩
def CbM.drew{w W:XA}{v:XB}{l:LB}(h:CbM w W v l):CbM w W.drew v l:=⟨h.bl.drew,h.sm.grow ⟨rfl,rfl,rfl,XD _,λ_ _=>rfl⟩⟩
def Jw{B:Nat}{W:XA}{v:XB}{l:LB}(h:SmZ B W v l):SmZ 0 W v l:=by
 rcases h with h|⟨g,c,b,d,-,k⟩
 .exact Ye h
 .exact X7 ⟨g,c,b,d,Zl _,k⟩
def LR(O:Ord N){Q:Nat->Prop}(n c:Nat)(Z:0<n)(h4:0<c)(hn:n<=512)(M:c*n<=400)(a:Nat->Nat)(T:Nat->List (Nat × Bs))(ha:∀i,i<n->a i<N)(hT:∀i,i<n->TOk N (T i))(hl:∀i,i<n->(T i).length=c)(va vb:XB)(w:XA)(h1:SLq Q w va n a)(H:GLq Q w vb n T):
 YN prog 132 #[va,vb] w (rZ w λe w'=>Sm w.heap.size w' e (dE N a T n)):=by
 obtain⟨I,Y,c1,rfl,-,-,P,X⟩:=h1;obtain⟨b,f,c2,rfl,-,-,U,h5⟩:=H;have K1:Hid (CbM w w (.slice none 0 0) (dE N a T 0)):=⟨XR _ _,Ye ⟨rfl,rfl⟩⟩
 have k:Hid (Ord N/\(∀i,i<n->a i<N)/\(∀i,i<n->TOk N (T i))/\(∀i,i<n->(T i).length=c)/\(∀j,j<n->w.rangeAt I (Y+4*j) (wn (a j)))/\(∀j,j<n->∃x,w.cell? ⟨b,f+j,none⟩=some x/\SmQ Q w x (T j))/\I<w.heap.size/\b<w.heap.size/\0<c/\c*n<=400/\0<n):=⟨O,ha,hT,hl,X,h5,P,U,h4,M,Z⟩
 obtain⟨d,S,h0⟩:=XE.1 u40;have HD:Hid (prog.underlying 44=some d/\d.isRow=true):=⟨S,h0⟩
 go_enter func132,ntmps132;go_wp2;go_loopg [5,10] n (λm s5 s10 W=>∃i:Nat,i+m=n/\s10=iZ i/\Hid (CbM w W s5 (dE N a T i)))
 case atStart=>exact⟨0,oM,rfl,K1⟩
 case round =>
  obtain⟨i,hc,rfl,J⟩:=hrel;by_cases t:i<n
  .have h3:(i:Int)<(n:Int):=oM;have HL:=Hid.mk' t;have h9:=lY (k:=I) (o:=Y) (n:=n) (c:=c1) (i:=i) t;have B0:=mk1 (RG.range_below (k.2.2.2.2.1 i t) J.bl k.2.2.2.2.2.2.1);obtain⟨s,r⟩:=hE (wr.heap.size);obtain⟨K,G⟩:=hE (wr.alloc (.cells #[uZ 0,uZ 0,uZ 0,uZ 0] 44));obtain⟨W2,B⟩:=hE (K.setCells s 0 (wn (a i)));have F1:Hid (Row K s [uZ 0,uZ 0,uZ 0,uZ 0]/\kZ wr K):=by rw[<-G.out,<-r.out];exact⟨row_new wr _ _,aD (w:=wr) _⟩
   have F2:Hid (Row W2 s (wn (a i))/\CbM w W2 u5 (dE N a T i)):=by
    rw[<-B.out];exact⟨F1.1.put rfl,J.grow (RG.below_setCells (by rw[r.out];exact XD _) _ _ _ F1.2)⟩
   obtain⟨va,F⟩:=hE (X9 (wn (a i)).toArray);have HO:Hid ((wn (a i)).toArray.all (·.oneCell')=true):=aI;go_wp2_with (first|(refine YI rfl 44 _ rfl I (Y+4*i) ?_ (wn (a i)) d ?_ ?_ ?_ ?_ ?_;rfl;exact B0.out;exact HD.1;exact HD.2;exact i40;rw[F.out])|(refine bH (v:=jZ s) (w':=K) rfl (.alloc 44) rfl ?_ ?_;(rw[<-G.out,<-r.out];kernel_rfl))|(refine Yk rfl 44 _ _ rfl s 0 (wn (a i)).toArray ?_ ?_ ?_ ?_ ?_ ?_;rfl;exact F.symm;exact F1.1.2.2;exact i40;exact HO.out;rw[show(wn (a i)).toArray.toList=wn (a i) from rfl,B.out])|fail)
   obtain⟨x,h6,h7⟩:=k.2.2.2.2.2.1 i t;have HX:=mk2 h6 h7;obtain⟨l,q⟩:=hE (dE N a T i);have D:dE N a T (i+1)=l++(T i).map (tmT N (a i)):=by rw[<-q.out];rfl
   have h8:l.length=c*i:=by rw[<-q.out];exact eY N (a:=a) i λj hj=>k.2.2.2.1 j oM
   have he:c*i+c<=c*n:=by have:=yAY c (Nat.succ_le_of_lt t);rwa[yBA]at this
   have C:Hid (l.length<=500/\(T i).length<=500/\0<(T i).length/\TOk N l):=⟨by have:=k.2.2.2.2.2.2.2.2.2.1;omega,by rw[k.2.2.2.1 i t];have:=k.2.2.2.2.2.2.2.2.2.1;omega,by rw[k.2.2.2.1 i t];exact k.2.2.2.2.2.2.2.2.1,by rw[<-q.out];exact pQ k.1.pos i λj hj=>k.2.2.1 j oM⟩
   have HE:Hid (dE N a T (i+1)=l++(T i).map (tmT N (a i))):=D;rw[q.out]at F2;refine(gwL [pE u5,pE (.iface 82 u5),pE (.slice (some ⟨b,f,none⟩) n c2),pE (iZ i),pE (.pointer (some ⟨b,f+1*i,none⟩)),pE x,pE (.iface 82 x),pE (nv (a i)),pM (w.heap.size<=·) ((T i).map (tmT N (a i))),pM (w.heap.size<=·) (l++(T i).map (tmT N (a i))),pM (w.heap.size<=·) (l++(T i).map (tmT N (a i)))] (λW=>CbM w W u5 l/\Row W s (wn (a i))) (λW W' A h=>⟨h.1.grow A,h.2.below A⟩)).draws kR kR ⟨
    gO 5 u5,
    Lh 0 15 u5 (.iface 82 u5) (λx W h=>h) (λ_=>rfl),
    gO 1 (.slice (some ⟨b,f,none⟩) n c2),
    gO 6 (iZ i),
    UR 2 17 3 18 (.slice (some ⟨b,f,none⟩) n c2) (iZ i) (d:=(.pointer (some ⟨b,f+1*i,none⟩))) (I:=(Yv 148 (.slice (some ⟨b,f,none⟩) n c2) (iZ i))) (atS b f (n:=n) c2 (i:=i) HL.out) (λx W h=>h) (λx W h=>h) (λ_=>rfl),
    fW (T:=82) 4 19 b (f+1*i) x Bc (λx W h=>h) (λW o=>by rw[ZV,o.1.bl.cell (p:=⟨b,f+i,none⟩) k.2.2.2.2.2.2.2.1];exact HX.1) (λ_=>rfl),
    Lh 5 20 x (.iface 82 x) (λx W h=>h) (λ_=>rfl),
    nY (T:=44) 7 s 0 (cs:=(wn (a i))) u40 i40 rfl (λW o=>o.2.2.1) (λ_=>rfl),
    P5 82 6 21 7 22 (pE x) 149 (λx W h=>⟨_,h,rfl⟩) (λz y W hx E o=>by
     obtain rfl:z=x:=hx;obtain rfl:y=nv (a i):=E;refine(eD k.1 (k.2.1 i HL.out) 0 z (T i) (by have:=C.2.1;omega) (k.2.2.1 i HL.out).szm (k.2.2.1 i HL.out).lt W (HX.2.sm.grow o.1.bl)).mono ?_;rintro e W' ⟨u,rfl,A,L⟩;exact⟨_,rfl,A,L.q.mono λg R=>XH o.1.bl.size R⟩),
    P5 82 1 16 8 23 (pE u5) 31 (λx W h=>⟨_,h,rfl⟩) (λz y W hx E o=>by
     obtain rfl:z=u5:=hx;have E:=E;refine(bY 0 z y l ((T i).map (tmT N (a i))) (by rw[XK,XZ];have:=C.2.2.1;omega) C.1 (by rw[XZ];exact C.2.1) C.2.2.2.sz ((k.2.2.1 i HL.out).tm k.1.pos (a i)).sz W (Jw o.1.sm) (X7 E.sm)).mono ?_;rintro e W' ⟨u,rfl,A,L⟩;exact⟨_,rfl,A,L.q.mono λg R=>XH o.1.bl.size R⟩),
    EH 9 24 id (λx W h=>h),yEZ⟩ ⟨F2.2.drew,F2.1⟩ ?_
   intro V R E L;have o:Hid (CbM w R (V 10) (dE N a T (i+1))):=⟨L.1.bl,X7 (by rw[HE.out];exact E 10 (Z6 (YL kR)))⟩
   dsimp only[bW,YT];go_wp2;go_roundg (gk-1)
   case measure=>omega
   case rel=>exact⟨i+1,oM,rfl,o⟩
  .have h3:¬(i:Int)<(n:Int):=oM;obtain rfl:i=n:=oM;have o:Hid (kZ w wr/\Sm w.heap.size wr u5 (dE N a T i)):=⟨J.bl,by
    rcases J.sm with⟨-,h⟩|h
    .exfalso;have:=eY N (a:=a) i k.2.2.2.1;rw[h]at this;have H:=yDm k.2.2.2.2.2.2.2.2.1 k.2.2.2.2.2.2.2.2.2.2;rw[<-this]at H;exact absurd H (Nat.lt_irrefl _)
    .exact h⟩
   go_wp2;go_ret;exact⟨_,rfl,o.1,o.2⟩
def rSc:yZ 44:=u40
def nSc:gZ 44 4:=i40
def qC(N x y n:Nat)(a:Nat->Nat)(i:Nat):Nat:=sPl N (sTi N (a i) x) (sTi N (a (n+i)) y)
def Qo{a b:Nat}(h:a+b<4611686018427387904)(w:XA):(binOp .add 3 (iZ a) (iZ b)).run prog w=.ok (iZ ((a+b:Nat):Int)) w:=by
 have c:(a:Int)+(b:Int)<4611686018427387904:=oM;have d:-4611686018427387904<(a:Int)+(b:Int):=oM;have k:Ya.wrap ((a:Int)+(b:Int))=((a+b:Nat):Int):=by rw[YD];omega
 go_simp
def Lz(O:Ord N){Q:Nat->Prop}(n:Nat)(hn:n<=500)(a:Nat->Nat)(x y:Nat)(hx:x<N)(hy:y<N)(Z:∀i,i<n+n->a i<N)(va:XB)(w:XA)(h1:SLq Q w va (n+n) a):
 YN prog 145 #[va,nv x,nv y] w (rZ w λe w'=>SLq (w.heap.size<=·) w' e n (qC N x y n a)):=by
 obtain⟨g,o,c,rfl,-,-,U,Y⟩:=h1;obtain⟨C0,G,B⟩:=CM uS4 iS4 n oM;refine hG w.heap.size λk4 m=>?_
 refine hG (w.alloc (.cells (wn x).toArray 44)) λT q=>?_
 refine hG T.heap.size λk5 f=>?_
 refine hG (T.alloc (.cells (wn y).toArray 44)) λI l=>?_
 refine hG I.heap.size λK X=>?_
 refine hG (I.alloc (.cells C0.toArray 44)) λw3 b=>?_
 have J:=boxS x (w:=w);have S:=boxS y (w:=T);have mk:=B I;rw[m.out,q.out]at J;rw[f.out,l.out]at S;rw[X.out,b.out]at mk;have s:=mk1 (((Mp.start w).new m q).new f l);have F0:=mk1 (FiL.new (C:=λj=>wn (qC N x y n a j)) X b G);have L:Ya.wrap (((n+n:Nat):Int).tdiv 2)=(n:Int):=by rw[yAK oM,YD];omega
 have H:=mk2 Z Y;obtain⟨vx,r⟩:=hE (nv x);obtain⟨vy,d⟩:=hE (nv y);rw[r.out]at J⊢;rw[d.out]at S⊢;clear Z Y B G q l b m f;go_enter func145,ntmps145;refine PW.bg [] ?_;refine PW.ns J ?_;refine PW.ns S ?_;refine PW.en [.slice none 0 0] ?_;refine PW.bg [iZ ((n+n:Nat):Int),iZ (Ya.wrap (((n+n:Nat):Int).tdiv 2))] ?_;rw[L];refine PW.ns mk ?_;refine PW.en [sZ K n n] ?_;refine XG ?_;refine PW.rg [iZ n,iZ 0] ?_;refine YX ?_;go_loopg [15] n (λgk s15 wr=>∃i:Nat,i+gk=n/\s15=iZ i/\Hid (FiL 4 I wr K n i λj=>wn (qC N x y n a j)))
 case atStart=>exact⟨0,oM,rfl,F0⟩
 case round =>
  clear F0;obtain⟨i,h0,rfl,F⟩:=hrel;refine PW.rg [.bool (decide ((i:Int)<(n:Int)))] ?_;by_cases hi:i<n
  .have p:(i:Int)<(n:Int):=oM;rw[decide_eq_true p];have M:Ya.wrap ((i:Int)+1)=((i+1:Nat):Int):=by rw[YD];omega
   have E:=mk1 (s.out.bl.trans (F.out.bl.mono s.out.bl.size));have HT:=gJ O (a i) x (H.out.1 i oM) hx;have V:=gJ O (a (n+i)) y (H.out.1 (n+i) oM) hy;have R:=mJ O (sTi N (a i) x) (sTi N (a (n+i)) y) (Y8 _ O.pos) (Y8 _ O.pos);rw[show sPl N (sTi N (a i) x) (sTi N (a (n+i)) y)=qC N x y n a i from rfl]at R;obtain⟨va,D⟩:=hE (nv (a i));obtain⟨vb,t⟩:=hE (nv (a (n+i)));obtain⟨vt,z⟩:=hE (nv (sTi N (a i) x));obtain⟨vu,v⟩:=hE (nv (sTi N (a (n+i)) y));obtain⟨vr,u⟩:=hE (nv (qC N x y n a i));rw[D.out,r.out,z.out]at HT;rw[t.out,d.out,v.out]at V;rw[z.out,v.out,u.out]at R;refine XG ?_;refine Yy rfl ?_;refine YU ?_;refine XG ?_;refine YX ?_;refine PW.rg [iZ i] ?_;refine AW.begin 22 22 ?_;refine AW.mv 0 ?_;refine AW.mv 1 ?_;refine AW.mv 2 ?_;refine AW.mv 3 ?_;refine AW.iv 4 (lY (k:=g) (o:=o) (n:=(n+n)) (c:=c) (i:=i) oM) ?_;refine AW.ro 5 (λW k=>RG.range_below (H.out.2 i oM) (E.out.trans (k.mono E.out.size)) U) D rSc nSc ?_;refine AW.va 6 (.iface 44 va) ?_;refine AW.ro 7 (λW k=>(((s.out.at_ 0).below F.out.bl).below k).2.1) r rSc nSc ?_;refine AW.mv 10 ?_;refine AW.mv 11 ?_;refine AW.va 12 (iZ n) ?_;refine AW.mv 13 ?_;refine AW.iv 14 (Qo (a:=n) (b:=i) oM) ?_;refine AW.iv 15 (lY (k:=g) (o:=o) (n:=(n+n)) (c:=c) (i:=(n+i)) oM) ?_;refine AW.ro 16 (λW k=>RG.range_below (H.out.2 (n+i) oM) (E.out.trans (k.mono E.out.size)) U) t rSc nSc ?_;refine AW.va 17 (.iface 44 vb) ?_;refine AW.ro 18 (λW k=>(((s.out.at_ 1).below F.out.bl).below k).2.1) d rSc nSc ?_;refine AW.gi 8 (λ_=>HT _) λW1 _=>?_
   refine AW.va 9 (.iface 44 vt) ?_;refine AW.gi 19 (λ_=>V _) λW2 _=>?_
   refine AW.gi 20 (λ_=>R _) λW3 _=>?_
   refine AW.ns 21 (lY (k:=K) (o:=0) (n:=n) (c:=n) (i:=i) hi W3) (XR _ _) ?_;rw[XI];refine AW.fi (us:=wn (qC N x y n a i)) u aI i40 (λk=>?_);obtain⟨W4,A⟩:=hE (W3.setCells K (4*i) (wn (qC N x y n a i)));obtain⟨th,F4⟩:=(F.out.grow k).put hi rfl (λ_ _=>rfl) A;have F5:=mk1 F4;rw[A.out];refine⟨th,?_⟩;clear F F4 k E th;refine PW.bb [iZ (Ya.wrap ((i:Int)+1))] ?_;rw[M];go_wp2;go_roundg (gk-1)
   case measure=>omega
   case rel=>exact⟨i+1,oM,rfl,F5⟩
  .have p:¬(i:Int)<(n:Int):=oM;obtain rfl:i=n:=oM;rw[decide_eq_false p];refine XG ?_;refine Yb rfl ?_;refine yAC ?_;refine PW.rg (P:=prog) [sZ K i i] ?_;refine Za ?_;go_ret;refine⟨_,rfl,s.out.bl.trans (F.out.bl.mono s.out.bl.size),K,0,i,rfl,XD _,XH s.out.bl.size F.out.kl,F.out.lt,λj k=>?_⟩;rw[XI];exact F.out.at_ j k
section
def Gi{w k b:XA}{g:Nat}{z vs:List XB}{T:Yd}(c:Hid (w.heap.size=g))(e:Hid (w.alloc (.cells z.toArray T)=k))(f:Hid (k.setCells g 0 vs=b))(d:vs.length=z.length):Hid (k.there g 0 vs.toArray.size/\kZ w b/\Row b g vs):=by
 have h:=(aK c e).out;rw[<-f.out];exact⟨by rw[YF,d];exact h.2.2.2,RG.below_setCells (c.out▸XD _) _ _ _ h.1,h.2.put d⟩
structure Kz(Z:Nat->Prop)(w w':XA):Prop where
 os:w'.os=w.os
 tape:w'.tape=w.tape
 output:w'.output=w.output
 size:w.heap.size<=w'.heap.size
 block:∀g,g<w.heap.size->Z g->w'.heap[g]? = w.heap[g]?
section
variable {Z:Nat->Prop}{w w' W:XA}{k o:Nat}{vs:List XB}
def Kz.of(h:kZ w w'):Kz Z w w':=⟨h.os,h.tape,h.output,h.size,λg k _=>h.block g k⟩
def Kz.trans(h:Kz Z w w')(k:Kz Z w' W):Kz Z w W:=⟨k.os.trans h.os,k.tape.trans h.tape,k.output.trans h.output,XH h.size k.size,λg b c=>(k.block g (XC b h.size) c).trans (h.block g b c)⟩
def Kz.bel(h:Kz Z w w')(b:∀g,Z g):kZ w w':=⟨h.os,h.tape,h.output,h.size,λg k=>h.block g k (b g)⟩
def Kz.kq{Q:Nat->Prop}(h:Kz Z w w')(c:∀g,Q g->Z g):Kq Q w w':=⟨h.size,λg k b=>h.block g b (c g k)⟩
def Kz.set(h:Kz Z w W)(b:w.heap.size<=k\/¬Z k):Kz Z w (W.setCells k o vs):=by
 obtain⟨f,i,d⟩:=nO k vs o W;refine⟨f.trans h.os,i.trans h.tape,d.trans h.output,by rw[setCells_size];exact h.size,λg e c=>?_⟩;rw[aE (k:=k) vs o W g (by rintro rfl;rcases b with b|b;omega;exact b c)];exact h.block g e c
def Kz.range(h:Kz Z w w')(c:Z k)(b:k<w.heap.size)(d:w.rangeAt k o vs):w'.rangeAt k o vs:=(h.kq λ_ h=>h).range c b d
end
structure LsS(Z:Nat->Prop)(w W:XA)(K n i:Nat)(a:Nat->Nat):Prop where
 kz:Kz Z w W
 lt:K<W.heap.size
 th:W.there K 0 (4*n)
 rw:∀j,j<i->W.rangeAt K (4*j) (wn (a j))
def DN{w w':XA}{k o n:Nat}(h:w.there k o n)(e:w'.heap[k]? = w.heap[k]?):w'.there k o n:=λj b=>by
 have:=h j b;rw[X4 (a:=⟨k,o+j,none⟩) e,Y2 (a:=⟨k,o+j,none⟩) e];exact this
def LsS.grow{Z:Nat->Prop}{w W W':XA}{K n i:Nat}{a:Nat->Nat}(h:LsS Z w W K n i a)(b:Z K)(k:Kz Z W W'):LsS Z w W' K n i a:=
 ⟨h.kz.trans k,XC h.lt k.size,DN h.th (k.block K h.lt b),λj c=>k.range b h.lt (h.rw j c)⟩
def LsS.put{Z:Nat->Prop}{w W:XA}{K n i:Nat}{a:Nat->Nat}(h:LsS Z w W K n i a)(b:w.heap.size<=K)(d:i<n):LsS Z w (W.setCells K (4*i) (wn (a i))) K n (i+1) a:=by
 refine⟨h.kz.set (Ye b),by rw[setCells_size];exact h.lt,Zg h.th _ _ _,λj c=>?_⟩;by_cases e:j=i
 .subst e;exact YY W K _ _ λt k=>by
   have k:t<4:=k;have:=h.th (4*j+t) oM;rwa[XI]at this
 .exact Yn (h.rw j oM) K _ _ (X7 (by
   show 4*j+4<=4*i\/4*i+4<=4*j;omega))
def AK(n:Nat)(S:n<=512)(f:ZQ)(cap:Array XB)(hf:∀args W,(callFunc f args).run prog W=.ok (.enter f args) W)(a:Nat->Nat)(Z:Nat->Prop)(I:Nat->XA->Prop)(w:XA)(M:∀g,w.heap.size<=g->Z g)(q:∀W,kZ w W->I 0 W)(p:∀i W K o vs,w.heap.size<=K->I i W->I i (yBn W K o vs))
 (J:∀i W,i<n->Kz Z w W->I i W->YN prog f (#[iZ i]++cap) W (Ret λe W'=>Kz Z W W'/\I (i+1) W'/\e=nv (a i))) :
 YN prog 126 #[iZ n,.func (.func f) #[] cap] w (Ret λe w'=>Kz Z w w'/\I n w'/\SLq (w.heap.size<=·) w' e n a/\∃g c,e=sZ g n c):=by
 obtain⟨C0,u,r⟩:=CM uS4 iS4 n S;have b:=r w;obtain⟨K,l⟩:=hE (w.heap.size);obtain⟨z,d⟩:=hE (w.alloc (.cells C0.toArray 44));have v:Ar w z K 4 n 0 (λ_=>[]):=Ar.new _ u d.out l.out;rw[d.out,l.out]at b;have P:Hid (LsS Z w z K n 0 a/\I 0 z):=⟨⟨Kz.of v.bl,v.lt,v.th,λj F=>absurd F (ZP _)⟩,q z v.bl⟩
 have N:=mk1 J;have Q:=mk1 hf;have A:Hid (Z K/\w.heap.size<=K/\∀i W o vs,I i W->I i (yBn W K o vs)):=⟨M K (yBr l.out),yBr l.out,λi W o vs=>p i W K o vs (yBr l.out)⟩
 obtain⟨fv,x⟩:=hE (yCI (.func f) #[] cap);rw[x.out];clear v u r J hf d l q p M;go_enter func126,ntmps126;go_wp2;clear b;go_loopg [11] n (λm s11 W=>∃i:Nat,i+m=n/\s11=iZ i/\Hid (LsS Z w W K n i a/\I i W))
 case atStart=>exact⟨0,oM,rfl,P⟩
 case round =>
  obtain⟨i,T,rfl,k⟩:=hrel;by_cases C:i<n
  .have E:(i:Int)<(n:Int):=oM;have B:=lY (k:=K) (o:=0) (c:=n) C;rw[XI]at B;have O:=mk1 C;go_wp2_with (first|(refine sQ rfl 16 17 rfl ?_ ?_ Q.out (N i wr O.out k.1.kz k.2) ?_;exact x.symm;rfl;intro e W' hR;refine yBN ?_)|fail)
   obtain⟨G,L,rfl⟩:=hR;have D:=k.1.grow A.1 G;obtain⟨H,y⟩:=hE (W'.setCells K (4*i) (wn (a i)));have R:Hid (LsS Z w H K n (i+1) a/\I (i+1) H):=by rw[<-y.out];exact⟨D.put A.2.1 C,A.2.2 _ _ _ _ L⟩
   have U:Hid (W'.there K (4*i) 4):=λt V=>by
    have:=D.th (4*i+t) oM;rwa[XI]at this
   obtain⟨X,s⟩:=hE (nv (a i));rw[s.out];clear G L D k;show wpList _ _ _ _ _ _;go_wp2_with (first|(refine Yk rfl 44 _ _ rfl K (4*i) (wn (a i)).toArray ?_ ?_ ?_ ?_ ?_ ?_;rfl;exact s.symm;exact U.out;exact i40;exact aI;rw[show(wn (a i)).toArray.toList=wn (a i) from rfl,y.out])|fail)
   go_roundg (gk-1)
   case measure=>omega
   case rel=>exact⟨i+1,oM,rfl,R⟩
  .have E:¬(i:Int)<(n:Int):=oM;obtain rfl:i=n:=oM;have s:Hid (Kz Z w wr/\I i wr/\SLq (w.heap.size<=·) wr (sZ K i i) i a):=⟨k.1.kz,k.2,K,0,i,rfl,XD _,A.2.1,k.1.lt,λj F=>by rw[XI];exact k.1.rw j F⟩
   go_wp2;go_ret;exact⟨_,rfl,s.1,s.2.1,s.2.2,_,_,rfl⟩
def Ir{n:Nat}{f:ZQ}{cap:Array XB}{a:Nat->Nat}{Z:Nat->Prop}{I:Nat->XA->Prop}{w:XA}(m:n<=512)(hf:∀args W,(callFunc f args).run prog W=.ok (.enter f args) W)(p:∀g,w.heap.size<=g->Z g)(b:∀W,kZ w W->I 0 W)(k:∀i W K o vs,w.heap.size<=K->I i W->I i (yBn W K o vs))(j:∀i W,i<n->Kz Z w W->I i W->cZ f (#[iZ i]++cap) W (Ret λe W'=>Kz Z W W'/\I (i+1) W'/\e=nv (a i))):
 cZ 126 #[iZ n,.func (.func f) #[] cap] w (Ret λe w'=>Kz Z w w'/\I n w'/\SLq (w.heap.size<=·) w' e n a):=
 (AK n m f cap hf a Z I w p b k j).mono λ_ _ ⟨v,h,c,d,l,_⟩=>⟨v,h,c,d,l⟩
def jJ{cap:Array XB}(n:Nat)(j:n<=512)(f:ZQ)(hf:∀args W,(callFunc f args).run prog W=.ok (.enter f args) W)(a:Nat->Nat)(w:XA)(g:∀i W,i<n->kZ w W->YN prog f (#[iZ i]++cap) W (rZ W λe W'=>e=nv (a i))):
 YN prog 126 #[iZ n,.func (.func f) #[] cap] w (rZ w λe w'=>SLq (w.heap.size<=·) w' e n a):=by
 refine(Ir (n:=n) j (f:=f) (cap:=cap) hf (a:=a) (Z:=(λ_=>True)) (I:=(λ_ _=>True)) (w:=w) (λ_ _=>trivial) (λ_ _=>trivial) (λ_ _ _ _ _ _ _=>trivial) λi W c d _=>?_).mono ?_
 .refine(g i W c (d.bel λ_=>trivial)).mono ?_;rintro e w' ⟨v,rfl,k,b⟩;exact⟨v,rfl,Kz.of k,trivial,b⟩
 .rintro e w' ⟨v,rfl,k,-,b⟩;exact⟨v,rfl,k.bel λ_=>trivial,b⟩
end
abbrev w1c(x:Nat):List XB:=[uZ x,uZ 0,uZ 0,uZ 0]
def Qz{x:Nat}(hx:x<18446744073709551616):wn x=w1c x:=by
 unfold wn;rw[X6 hx,yAr hx,yAr (by omega:x<340282366920938463463374607431768211456),yAr (by omega:x<6277101735386680763835789423207666416102355444464034512896)];rfl
def rQ(x:Nat)(hx:x<18446744073709551616):Gives 15 #[uZ x] (nv x):=by
 unfold nv;rw[Qz hx];intro w;go_enter func15,ntmps15;refine RG.M.enter [(0,.v (uZ x))] 6 kR ?_;intro a0 d;repeat refine XG ?_
 refine d.T [.m 0] [(0,RG.z 4)] [] [RG.z 4] [0,2] ⟨mk 0 44,yEZ⟩ ?_;intro k f e c;repeat refine XG ?_
 refine c.T [.x (uZ x),.x (.agg (w1c x).toArray),.x (.agg (w1c x).toArray),.u 0] [] [(0,3,w1c x)] [w1c x] [2] ⟨st,st,st,RG.pt i40,yEZ⟩ ?_;intro a2 g b;refine Za ?_;refine XN (v:=.agg (w1c x).toArray) (aH b.st rfl rfl (b.at (s:=(.p 0 0))) u40 i40) b.sl.defers ?_;exact⟨_,rfl,b.st.bel.below,rfl⟩
def OA{v i:Nat}(hv:v<18446744073709551616):v/2^i<18446744073709551616:=Nat.lt_of_le_of_lt (Nat.div_le_self _ _) hv
def tB{w b W W':XA}{k x:Nat}(c:Hid (w.heap.size=k))(f:Hid (w.alloc (.cells (RG.z 4).toArray 44)=b))(d:kZ b W)(g:Hid (W.setCells k 0 (wn x)=W')):Hid (W.there k 0 4/\kZ w W'/\Row W' k (wn x)):=by
 have h:=(aK c f).out;have e:=h.2.below d;rw[<-g.out];exact⟨e.2.2,RG.below_setCells (yBr c.out) _ _ _ (h.1.trans (d.mono h.1.size)),e.put rfl⟩
def Ky(v i k:Nat)(hv:v<18446744073709551616)(y:i<64)(w:XA)(n:k<w.heap.size)(o:w.cell? ⟨k,0,none⟩=some (uZ v)):cZ 124 #[iZ i,jZ k] w (rZ w λe w'=>e=nv (v/2^i%2)):=by
 obtain⟨q,g⟩:=hE (w.heap.size);obtain⟨l,b⟩:=hE (lZ w (RG.z 4) 44);have t:=aK g b;have r:l.cell? ⟨k,0,none⟩=some (uZ v):=by rw[t.1.cell (p:=⟨k,0,none⟩) n];exact o
 have f:bits .and .u64 ((v:Int)/2^i) 1=((v/2^i%2:Nat):Int):=by
  rw[<-and_one (OA hv),Int.natCast_ediv,Int.natCast_pow];rfl
 have m:=mk1 (rQ (v/2^i%2) oM);generalize v/2^i%2=x at f m⊢;have u:=mk1 f;clear o n f;go_enter func124,ntmps124;go_wp2_with (first|(refine alR 3 g b ?_)|fail)
 rw[u.out];refine(m l).mono ?_;rintro e s ⟨a,rfl,j,rfl⟩;obtain⟨z,d⟩:=hE (s.setCells q 0 (wn x));have R:=tB g b j d;obtain⟨B,c⟩:=hE (nv x);rw[c.out];go_wp2_with (first|(refine stR 3 d c R.1 i40 aI ?_)|fail)
 refine XN (aF 3 rfl R.2.2 rfl u40 i40) rfl ?_;exact⟨_,rfl,R.2.1,rfl⟩
def R2(O:Ord N)(v i k l:Nat)(hv:v<18446744073709551616)(B:i<64)(w:XA)(a:k<w.heap.size)(o:l<w.heap.size)(G:w.cell? ⟨k,0,none⟩=some (uZ v))(t:w.cell? ⟨l,0,none⟩=some (.func (.func 124) #[] #[jZ k])):cZ 125 #[iZ i,jZ l] w (rZ w λe w'=>e=nv (sMi N (v/2^i%2) 1)):=by
 obtain⟨q,m⟩:=hE (w.heap.size);obtain⟨u,b⟩:=hE (lZ w (RG.z 4) 44);have r:=aK m b;have n:u.cell? ⟨l,0,none⟩=some (.func (.func 124) #[] #[jZ k]):=by rw[r.1.cell (p:=⟨l,0,none⟩) o];exact t
 have y:=mk1 (Ky v i k hv B u (XC a r.1.size) (by rw[r.1.cell (p:=⟨k,0,none⟩) a];exact G));have z:=mk1 (D3 O (v/2^i%2) 1 (by have:=O.n2;omega) (by have:=O.n2;omega));have C:=mk1 (rQ 1 dC);generalize v/2^i%2=x at y z⊢;obtain⟨vf,f⟩:=hE (yCI (.func 124) #[] #[jZ k]);rw[f.out]at n;go_enter func125,ntmps125;go_wp2_with (first|(refine alR 3 m b ?_)|(refine sQ rfl 4 5 rfl (f:=124) (cap:=#[jZ k]) (x:=(iZ i)) ?_ ?_ (λ_ _=>kR) y.out ?_;exact f.symm;rfl;intro e W' hR;refine yBN ?_)|fail)
 obtain⟨d,rfl⟩:=hR;show wpList _ _ _ _ _ _;go_wp2_with fail
 refine(C W').mono ?_;rintro e D ⟨F,rfl,j,rfl⟩;go_wp2_with fail
 refine(z D).mono ?_;rintro e E ⟨F,rfl,s,rfl⟩;obtain⟨H,g⟩:=hE (E.setCells q 0 (wn (sMi N x 1)));have R:=tB m b (d.trans ((j.trans (s.mono j.size)).mono d.size)) g;obtain⟨I,c⟩:=hE (nv (sMi N x 1));rw[c.out];go_wp2_with (first|(refine stR 3 g c R.1 i40 aI ?_)|fail)
 refine XN (aF 3 (T:=44) rfl R.2.2 rfl u40 i40) rfl ?_;exact⟨_,rfl,R.2.1,rfl⟩
namespace RG
variable {P:YJ}{ops:Array Yp}{Q:yAM->Act->XA->Prop}{w:XA}{a0:Act}{F:Flow}
def nQ(k:Array Yp):Nat->Nat->Nat->Bool
 | 0,i,j=>depOn k i j
 | f+1,i,j=>depOn k i j || (YA i).any (λx=>depOn k i x && nQ k f x j)
def mX(k:Array Yp)(n:Nat):Bool:=(YA n).all (λj=>nQ k 5 n j) && (YA k.size).all (λi=>decide (i<=n) || depOn k i (i-1))
def zJ{n i:Nat}(h:mX ops n=true)(c:n<i)(b:i<ops.size):depOn ops i (i-1)=true:=by
 unfold mX at h;rw[XV]at h;have k:=Yq.1 h.2 i (Y4.2 b);rw[Z2,decide_eq_true_eq]at k;rcases k with k|k
 .omega
 .exact k
def xQ{L:Array Bool}{a:Act}(c:InvF F ops a0 L a w):∀(f i j:Nat),i<ops.size->on L i=true->nQ ops f i j=true->on L j=true
 | 0,i,j,his,hi,h=>by
  have k:=X8 his;unfold nQ depOn at h;rw[k]at h;exact BM (ho:=k) c h hi
 | f+1,i,j,his,hi,h=>by
  have k:=X8 his;unfold nQ at h;rw[Z2]at h;have hd:∀x,depOn ops i x=true->on L x=true:=λx hx=>by
   unfold depOn at hx;rw[k]at hx;exact BM (ho:=k) c hx hi
  rcases h with h|h
  .exact hd j h
  .obtain⟨x,hx,b⟩:=yDR.1 h;rw[XV]at b;exact xQ c f x j (oN (Y4.1 hx)) (hd x b.1) b.2
def Aj{n:Nat}(D:∀i,n<i->i<ops.size->depOn ops i (i-1)=true)(z:∀(i:Nat) (o:Yp),ops[i]? = some o->∀e∈o.after,Zb .any e=true->e.on<i):∀(c:Nat) (L:Array Bool) (a:Act) (w:XA) (m:Nat),n<=m->m<=ops.size->L.size=ops.size->(∀j,on L j=true↔j<m)->unl L=c->wpList P ops Q (ops.toList.drop m) a w->wpAny P .any ops Q c L a w:=by
 intro c;induction c with
 | zero =>
  intro L a w m u v t k A h;have q:m=ops.size:=by
   rcases Zp m ops.size with d|d
   .have:=kW A (i:=m) oM;rw[k]at this;omega
   .omega
  rw[q,<-XU,yDP]at h;refine⟨?_,h⟩;apply List.eq_nil_iff_forall_not_mem.2;intro i r;obtain⟨d,o,ho,-⟩:=mem_ready.1 r;have f:=(k i).2 (by rw[q];exact(X5.1 ho).1);unfold on at f;rw[XQ]at d f;cases hh:L[i]? with
  | none=>rw[hh]at d;cases d
  | some b=>rw[hh]at d f;rw[show b=false from d]at f;cases f
 | succ c ih =>
  intro L a w m u v t k A h;have s:∀i,i∈Yu .any ops L->i=m:=λi r=>by
   obtain⟨d,o,ho,p⟩:=mem_ready.1 r;have g:on L i=false:=by
    unfold on;rw[XQ]at d⊢;cases hh:L[i]? with
    | none=>rfl
    | some b=>rw[hh]at d;exact d
   have l:=(X5.1 ho).1;rcases Nat.lt_trichotomy i m with f|f|f
   .rw[(k i).2 f]at g;cases g
   .exact f
   .have:=(k (i-1)).1 (gU ho p (D i oM l));omega
  refine⟨λC=>?_,λi r=>?_⟩
  .rcases Zp m ops.size with d|d
   .exfalso;have ho:ops[m]? = some ops[m]:=X8 _;have g:on L m=false:=by
     cases x:on L m with
     | false=>rfl
     | true=>have:=(k m).1 x;omega
    have:m∈Yu .any ops L:=mem_ready.2 ⟨?_,_,ho,λe y x=>(k e.on).2 (z m _ ho e y x)⟩
    .rw[C]at this;cases this
    .unfold on at g;rw[XQ,X8 (by rw[t];exact d)]at g⊢;exact g
   .have q:m=ops.size:=oM;rw[q,<-XU,yDP]at h;exact h
  .obtain rfl:=s i r;obtain⟨d,o,ho,p⟩:=mem_ready.1 r;have l:=(X5.1 ho).1;have g:ops.toList.drop i=o :: ops.toList.drop (i+1):=by
    rw[List.drop_eq_getElem_cons (by rw[XU];exact l)];have:ops.toList[i]? = some o:=by rw[Array.getElem?_toList];exact ho
    rw[XO (by rw[XU];exact l)]at this;rw[XX.inj this]
   rw[g]at h;have y:wpOp P ops Q i (λx w'=>wpList P ops Q (ops.toList.drop (i+1)) x w') a w:=by
    unfold wpOp;rw[ho];exact h
   refine yDv (λx w' B=>ih _ x w' (i+1) oM oM (by rw[Array.size_setIfInBounds];exact t) (λj=>?_) (oN (mE d)) B) y;rw[dX (by rw[t];omega)];constructor
   .intro q;rw[Z2]at q;rcases q with q|q
    .have:=(k j).1 q;omega
    .have:i=j:=by simpa using q
     omega
   .intro q;by_cases f:j<i
    .rw[(k j).2 f,Bool.true_or]
    .rw[show j=i by omega];simp
def yU{n id:Nat}(F:Flow)(Z:Array Bool->Act->Prop)(T:n<ops.size)(v:mX ops n=true)(K:P.follows .mixedOrders=true)(R:RegF P Q F ops a0 n)(I:∀b,F.B b w.drew)(S:∀L,(∀i,on L i=false)->Z L a0)(E:∀(k:Nat) (o:Yp) (L:Array Bool) (a:Act) (w:XA),k<n->(∀i,on L i=true->i<n)->ops[k]? = some o->on L k=false->(∀e∈o.after,Zb .any e=true->on L e.on=true)->InvF F ops a0 L a w->Z L a->wpOp P ops Q k (λy w'=>InvF F ops a0 (L.setIfInBounds k true) y w'/\Z (L.setIfInBounds k true) y) a w)(O:∀(V:Nat->XB) (w':XA),(∀i,i<n->F.kill i=[]->F.R i (V i) w')->(∀b,F.killB b=[]->F.B b w')->(∃L a,Z L a/\∀i,i<n->on L i=true/\∀d,aU ops i=some d->a.tmps[d]? = some (V i))->wpList P ops Q (ops.toList.drop n) (bW V (ops.toList.take n) 0 a0) w'):(Zd id ops true).wp P Q a0 w:=by
 have G:∀(i:Nat) (o:Yp),ops[i]? = some o->∀e∈o.after,Zb .any e=true->e.on<i:=λi o ho=>(R.of ho).1
 have key:∀(g:Nat) (L:Array Bool) (a:Act) (w:XA),unl L=g->(∀j,n<=j->on L j=false)->InvF F ops a0 L a w->Z L a->wpAny P .any ops Q g L a w:=by
  intro g;induction g with
  | zero =>
   intro L a w C c q B;have:=kW C (by rw[q.size];omega);rw[c n (XD _)]at this;cases this
  | succ g ih =>
   intro L a w C c q B;by_cases f:∀j,j<n->on L j=true
   .have m:∀j,on L j=true↔j<n:=λj=>⟨λp=>(by
     rcases Zp j n with h|h
     .exact h
     .rw[c j h]at p;cases p),f j⟩
    obtain⟨V,t,D⟩:=q.all;have N:=q.act R oM m t;have u:∀l:List Nat,l=[]->∀x∈l,on L x=false:=λl H x hx=>by rw[H]at hx;cases hx
    have r:=O V w (λj p M=>D j (f j p) (u _ M)) (λb J=>q.base b (u _ J)) ⟨L,a,B,λi z=>⟨f i z,λd hd=>t i d (f i z) hd⟩⟩;rw[<-N]at r;exact Aj (λi s A=>zJ v s A) G _ L a w n (XD _) oM q.size m C r
   .refine⟨λJ=>?_,λi z=>?_⟩
    .exact absurd (λj p=>q.full R J j oM) f
    .obtain⟨s,o,ho,m⟩:=mem_ready.1 z;have t:=(X5.1 ho).1;have u:on L i=false:=by
      unfold on;rw[XQ]at s⊢;cases hh:L[i]? with
      | none=>rfl
      | some b=>rw[hh]at s;exact s
     have H:i<n:=by
      rcases Zp i n with h|h
      .exact h
      .exfalso;rcases Zp n i with A|A
       .have:=gU ho m (zJ v A t);rw[c (i-1) oM]at this;cases this
       .obtain rfl:i=n:=oM;refine f λj p=>?_
        unfold mX at v;rw[XV]at v;have r:=Yq.1 v.1 j (Y4.2 p);unfold nQ at r;rw[Z2]at r;rcases r with r|r
        .exact gU ho m r
        .obtain⟨x,hx,D⟩:=yDR.1 r;rw[XV]at D;exact xQ q 4 x j (oN (Y4.1 hx)) (gU ho m D.1) D.2
     refine yDv (λy w' r=>ih _ y w' (oN (mE s)) (λj p=>?_) r.1 r.2) (E i o L a w H (λj p=>?_) ho u m q B)
     .rw[dX (by rw[q.size];exact t),c j p];simp only[Bool.false_or,beq_eq_false_iff_ne];omega
     .rcases Zp j n with h|h
      .exact h
      .rw[c j h]at p;cases p
 have c:∀i,on (XT ops.size false) i=false:=λi=>by
  unfold on;rw[XQ,Array.getElem?_replicate];by_cases h:i<ops.size
  .rw[yEX h];rfl
  .rw[yEY h];rfl
 refine wp_region_any K (key _ _ a0 _ ?_ (λj _=>c j) ⟨X0,(λi o _ h=>by rw[c]at h;cases h),rfl,rfl,λ_ _=>rfl,⟨λ_=>Zs,λi d h=>(by rw[c]at h;cases h),λi h=>(by rw[c]at h;cases h)⟩,λb _=>I b⟩ (S _ c));unfold unl;rw[Array.toList_replicate,List.countP_replicate];simp
def qU{n id:Nat}(F:Flow)(q:n<ops.size)(l:mX ops n=true)(j:P.follows .mixedOrders=true)(R:RegF P Q F ops a0 n)(f:∀b,F.B b w.drew)(r:∀(V:Nat->XB) (w':XA),(∀i,i<n->F.kill i=[]->F.R i (V i) w')->(∀b,F.killB b=[]->F.B b w')->wpList P ops Q (ops.toList.drop n) (bW V (ops.toList.take n) 0 a0) w'):(Zd id ops true).wp P Q a0 w:=
 yU F (λ_ _=>True) q l j R f (λ_ _=>trivial) (λk o L a w c d p g m e _=>yDv (λ_ _ h=>⟨h,yEZ⟩) (FI R c d p g m e)) λV w' c d _=>r V w' c d
def Gw.tail2{id:Nat}(G:Gw)(n:Nat)(k:(decide (n<ops.size) && mX ops n)=true)(g:P.follows .mixedOrders=true)(b:BO ops a0.tmps.size=true)(h:iY P Q G.flow ops a0 0 (ops.toList.take n))(e:G.B w.drew)
 (d:∀(V:Nat->XB) (w':XA),(∀i,i<n->G.R i (V i) w')->G.B w'->wpList P ops Q (ops.toList.drop n) (bW V (ops.toList.take n) 0 a0) w'):(Zd id ops true).wp P Q a0 w:=by
 rw[XV,decide_eq_true_eq]at k;exact qU G.flow k.1 k.2 g (Gw.reg b h) (λ_=>e) λV w' c j=>d V w' (λi f=>c i f rfl) (j 0 rfl)
end RG
section
section
variable {P:YJ}{ops:Array Yp}{Q:yAM->Act->XA->Prop}{p r fuel k off:Nat}{J:Iv}{o:Yp}{listed:Array Bool}{a a':Act}{w:XA}{u:XB}{t:Zw}{T:Yd}{y:yAe}
def AW.f1(hv:u.cells=#[u]/\u.oneCell'=true)(i:(P.info? T).map (·.size)=some 1)(h:J.p w->w.there k off 1/\Q .normal a' (w.setCells k off [u]))(ho:ops[p]? = some o:=by(simp only[List.getElem?_toArray,List.getElem?_cons_succ,List.getElem?_cons_zero])<;>rfl)(hd:o.dst=none:=by rfl)(e:o.guard=none:=by rfl)(c:o.op=.store T (.tmp t) y:=by rfl)(hx:a.eval (.tmp t)=oZ k off:=by rfl)(l:a.eval y=u:=by rfl)
 (d:a.put none Zs=a':=by(simp only[Ym])<;>rfl) (b:(Yu .any ops listed,Yu .any ops (listed.setIfInBounds p true),J.b,(listed.setIfInBounds p true).getD p false,(listed.setIfInBounds p true).getD r false)=([p],[],true,true,true):=by kernel_rfl):AW P ops Q p r J (fuel+1) listed a w:=λg=>by
 simp only[Ze.injEq]at b;obtain⟨f,j⟩:=h g;subst d;exact anyS.sto ho T (.tmp t) y c k off u hv.1 hv.2 f i (Ye b.2.2) (anyS.done b.2.1 j _) hx l b.1 e hd
end
variable {P:Nat}[NeZero P]{N:Nat}
def LA(O:Ord N){Q:Nat->Prop}(n:Nat)(hn:n<=500)(c:Nat)(hc:c<=200)(h6:0<c)(a:Nat->List (Nat × Bs))(x y:Nat)(hx:x<N)(hy:y<N)(ha:∀i,i<n+n->TOk N (a i)/\(a i).length=c)(va:XB)(w:XA)(h1:GLq Q w va (n+n) a):
 YN prog 190 #[va,nv x,nv y] w (rZ w λe w'=>GLq (w.heap.size<=·) w' e n (mW N x y n a)):=by
 obtain⟨g,o,c1,rfl,-,-,B,hr⟩:=h1;obtain⟨C0,H,E⟩:=CM uSu iSu n oM;refine hG w.heap.size λk4 r=>?_
 refine hG (w.alloc (.cells (wn x).toArray 44)) λw1 u=>?_
 refine hG w1.heap.size λk5 l=>?_
 refine hG (w1.alloc (.cells (wn y).toArray 44)) λA q=>?_
 refine hG A.heap.size λK hK=>?_
 refine hG (A.alloc (.cells C0.toArray 82)) λw3 d=>?_
 have M:=boxS x (w:=w);have B2:=boxS y (w:=w1);have mk:=E A;rw[r.out,u.out]at M;rw[l.out,q.out]at B2;rw[hK.out,d.out]at mk;have z:=mk1 (((Mp.start w).new r u).new l q);have I:=FiL.new (C:=λ_=>[]) hK d H;have F0:Hid (LsI A w3 K n 0 (mW N x y n a)):=⟨I.bl,I.lt,by have:=I.th;rwa[ZV]at this,I.kl,λj hj=>absurd hj (ZP _)⟩
 have U:Ya.wrap (((n+n:Nat):Int).tdiv 2)=(n:Int):=by rw[yAK oM,YD];omega
 have L:=mk2 ha hr;obtain⟨vx,v⟩:=hE (nv x);obtain⟨vy,f⟩:=hE (nv y);rw[v.out]at M⊢;rw[f.out]at B2⊢;clear ha hr E H u q d r l I;go_enter func190,ntmps190;refine PW.bg [] ?_;refine PW.ns M ?_;refine PW.ns B2 ?_;refine PW.en [.slice none 0 0] ?_;refine PW.bg [iZ ((n+n:Nat):Int),iZ (Ya.wrap (((n+n:Nat):Int).tdiv 2))] ?_;rw[U];refine PW.ns mk ?_;refine PW.en [sZ K n n] ?_;refine XG ?_;refine PW.rg [iZ n,iZ 0] ?_;refine YX ?_;go_loopg [15] n (λgk s15 wr=>∃i:Nat,i+gk=n/\s15=iZ i/\Hid (LsI A wr K n i (mW N x y n a)))
 case atStart=>exact⟨0,oM,rfl,F0⟩
 case round =>
  clear F0;obtain⟨i,h5,rfl,F⟩:=hrel;refine PW.rg [.bool (decide ((i:Int)<(n:Int)))] ?_;by_cases Z:i<n
  .have s:(i:Int)<(n:Int):=oM;rw[decide_eq_true s];have V:Ya.wrap ((i:Int)+1)=((i+1:Nat):Int):=by rw[YD];omega
   have b:=mk1 (z.out.bl.trans (F.out.bl.mono z.out.bl.size));obtain⟨x1,h2,h4⟩:=L.out.2 i oM;obtain⟨x2,h3,T⟩:=L.out.2 (n+i) oM;have G:=L.out.1 i oM;have a2:=L.out.1 (n+i) oM;have t1:=mk1 (G.1.tm O.pos x);have t2:=mk1 (a2.1.tm O.pos y);have X:=mk1 (λ(W:XA) (hB:kZ w W)=>eD O hx 0 x1 (a i) (by rw[G.2];omega) G.1.szm G.1.lt W (h4.sm.grow hB));have R:=mk1 (λ(W:XA) (hB:kZ w W)=>eD O hy 0 x2 (a (n+i)) (by rw[a2.2];omega) a2.1.szm a2.1.lt W (T.sm.grow hB));rw[v.out]at X;rw[f.out]at R;have l1:((a i).map (tmT N x)).length=c:=by rw[XZ];exact G.2
   have l2:((a (n+i)).map (tmT N y)).length=c:=by rw[XZ];exact a2.2
   refine XG ?_;refine Yy rfl ?_;refine YU ?_;refine XG ?_;refine YX ?_;refine PW.rg [iZ i] ?_;refine AW.begin 22 22 ?_;refine AW.mv 0 ?_;refine AW.mv 1 ?_;refine AW.mv 2 ?_;refine AW.mv 3 ?_;refine AW.iv 4 (atS g o (n:=(n+n)) c1 (i:=i) oM) ?_;rw[ZV];refine AW.ce 5 Bc (λW k=>((b.out.trans (k.mono b.out.size)).cell (p:=⟨g,o+i,none⟩) B).trans h2) ?_;refine AW.va 6 (.iface 82 x1) ?_;refine AW.ro 7 (λW k=>(((z.out.at_ 0).below F.out.bl).below k).2.1) v rSc nSc ?_;refine AW.mv 10 ?_;refine AW.mv 11 ?_;refine AW.va 12 (iZ n) ?_;refine AW.mv 13 ?_;refine AW.iv 14 (Qo (a:=n) (b:=i) oM) ?_;refine AW.iv 15 (atS g o (n:=(n+n)) c1 (i:=(n+i)) oM) ?_;rw[ZV];refine AW.ce 16 Bc (λW k=>((b.out.trans (k.mono b.out.size)).cell (p:=⟨g,o+(n+i),none⟩) B).trans h3) ?_;refine AW.va 17 (.iface 82 x2) ?_;refine AW.ro 18 (λW k=>(((z.out.at_ 1).below F.out.bl).below k).2.1) f rSc nSc ?_;refine AW.ca 8 (λk=>X.out _ (b.out.trans (yDy k b.out.size))) (λe w' h=>h.1) ?_;rintro y1 W1 ⟨D,s1⟩;have s1:Sm _ W1 y1 ((a i).map (tmT N x)):=s1;refine AW.va 9 (.iface 82 y1) ?_;refine AW.ca 19 (λk=>R.out _ (b.out.trans (yDy k b.out.size))) (λe w' h=>h.1) ?_;rintro y2 S ⟨m,s2⟩;have s2:Sm _ S y2 ((a (n+i)).map (tmT N y)):=s2;refine AW.ca 20 (λ_=>bY 0 y1 y2 _ _ (by rw[XK];omega) oM oM t1.out.sz t2.out.sz S (X7 (s1.q.sm.grow m)) (X7 s2.q.sm)) (λe w' h=>h.1) ?_;rintro y3 J ⟨h0,s3⟩;have s3:Sm S.heap.size J y3 (mW N x y n a i):=s3;refine AW.ns 21 (atS K 0 (n:=n) n (i:=i) Z J) (XR _ _) ?_;rw[XI,ZV];have bb:SmQ (λg=>A.heap.size<=g/\g≠K) J y3 (mW N x y n a i):=s3.q.mono λg B=>by
    have h1:wr.heap.size<=W1.heap.size:=D.size;have:=m.size;have:=F.out.lt;have:=F.out.bl.size;omega
   refine AW.f1 s3.q.one UO (λk=>?_);have F3:=F.out.grow k;have F4:=F3.put Z bb;obtain⟨W4,Y⟩:=hE (J.setCells K i [y3]);rw[Y.out]at F4⊢;have F5:=mk1 F4;refine⟨λt ht=>?_,?_⟩
   .obtain rfl:t=0:=oM;have:=F3.th i Z;rwa[XI]at this
   clear F F4 F3 k b bb s1 s2 s3 D m h0 X R;refine PW.bb [iZ (Ya.wrap ((i:Int)+1))] ?_;rw[V];go_wp2;go_roundg (gk-1)
   case measure=>omega
   case rel=>exact⟨i+1,oM,rfl,F5⟩
  .have s:¬(i:Int)<(n:Int):=oM;obtain rfl:i=n:=oM;rw[decide_eq_false s];have G:=F.out.gl;refine XG ?_;refine Yb rfl ?_;refine yAC ?_;refine PW.rg (P:=prog) [sZ K i i] ?_;refine Za ?_;go_ret;exact⟨_,rfl,z.out.bl.trans (F.out.bl.mono z.out.bl.size),G.mono λg B=>XH z.out.bl.size B⟩
end
structure GOk(N n c:Nat)(G H:Nat->LB)(U:LB):Prop where
 n0:0<n
 c0:0<c
 cn:c*n<=64
 g:∀i,i<n->TOk N (G i)/\(G i).length=c
 h:∀i,i<n->TOk N (H i)/\(H i).length=c
 u:TOk N U
 u0:0<U.length
 u9:U.length<=16
def GOk.nle{n c:Nat}{G H:Nat->LB}{U:LB}(h:GOk N n c G H U):n<=64:=by
 have k:=h.cn;have:=yAn n h.c0;omega
def GOk.cle{n c:Nat}{G H:Nat->LB}{U:LB}(h:GOk N n c G H U):c<=64:=by
 have k:=h.cn;have:=yAY c h.n0;omega
def Dh{c k b:XB}{w:XA}:(Ys 150 (.agg #[c,k,b])).run prog w=.ok (jZ w.heap.size) (w.alloc (.cells #[c,k,b] 150)):=kR
def uGL:wZ 148:=wQ
def yL(O:Ord N){Q:Nat->Prop}(n c:Nat)(G H:Nat->LB)(U:LB)(hG:GOk N n c G H U)(a b:Nat->Nat)(ha:∀i,i<n->a i<N)(j:∀i,i<n->b i<N)(v va p:XB)(w:XA)(X:GRq Q w v n G H U)(T:SLq Q w va n a)(Y:SLq Q w p n b):
 cZ 78 #[v,va,p] w (rZ w λe w'=>Sm w.heap.size w' e (dE N a G n++dE N b H n)):=by
 obtain⟨m,l,E,rfl,h3,R,-⟩:=X.ex;have B:=λ(W:XA) (d:kZ w W)=>LR O n c hG.n0 hG.c0 (oN hG.nle) (oN hG.cn) a G ha (λi f=>(hG.g i f).1) (λi f=>(hG.g i f).2) va m W (T.keep (Kq.of_below d)) (h3.keep (Kq.of_below d))
 have t:=λ(W:XA) (d:kZ w W)=>LR O n c hG.n0 hG.c0 (oN hG.nle) (oN hG.cn) b H j (λi f=>(hG.h i f).1) (λi f=>(hG.h i f).2) p l W (Y.keep (Kq.of_below d)) (R.keep (Kq.of_below d))
 have Z:(dE N a G n).length=c*n:=eY N n λi f=>(hG.g i f).2
 have P:(dE N b H n).length=c*n:=eY N n λi f=>(hG.h i f).2
 have t1:TOk N (dE N a G n):=pQ O.pos n λi f=>(hG.g i f).1
 have t2:TOk N (dE N b H n):=pQ O.pos n λi f=>(hG.h i f).1
 have S:=yDm hG.c0 hG.n0;have h5:=hG.cn;generalize dE N a G n=C at B Z t1⊢;generalize dE N b H n=lb at t P t2⊢;have I:=λ(W:XA) (u z:XB) (M:Sm 0 W u C) (L:Sm 0 W z lb)=>bY 0 u z C lb (by rw[XK];omega) oM oM t1.sz t2.sz W (X7 M) (X7 L)
 have F:=Hid.mk' (YV B (YV t I));obtain⟨D,r⟩:=hE (w.alloc (.cells #[m,l,E] 150));obtain⟨k,K⟩:=hE (w.heap.size);have J:Hid (Row D k [m,l,E]/\kZ w D):=by rw[<-r.out,<-K.out];exact⟨row_new w _ _,aD _⟩
 obtain⟨v0,s⟩:=hE (X9 #[m,l,E]);have B1:Hid ((Ys 150 v0).run prog w=.ok (jZ k) D):=s.out▸r.out▸K.out▸Dh;rw[s.out];go_enter func78,ntmps78;go_wp2_with (first|(refine aG (u:=v0) (v:=jZ k) (w':=D) rfl 150 (.tmp 0) rfl ?_ ?_ ?_;rfl;exact B1)|fail)
 refine(gwL [pE va,pE (jZ k),pE m,pM (w.heap.size<=·) C,pE p,pE (oZ k 1),pE l,pM (w.heap.size<=·) lb,pM (w.heap.size<=·) (C++lb),pM (w.heap.size<=·) (C++lb)] (λW=>Row W k [m,l,E]/\kZ w W) (λW W' j h=>⟨h.1.below j,h.2.trans (j.mono h.2.size)⟩)).draws kR kR ⟨
  gO 1 va,
  gO 3 (jZ k),
  fW 1 8 k 0 m uGL (λx W h=>h) (λW d=>d.1.2.1 0 _ rfl) (λ_=>rfl),
  dY 0 7 2 9 132 (λx y=>#[x,y]) (λx y W hx o d=>by
   obtain rfl:x=va:=hx;obtain rfl:y=m:=o;apply(F.1 W d.2).mono;rintro e W' ⟨u,rfl,j,q⟩;exact⟨_,rfl,j,q.q.mono λg A=>XH d.2.size A⟩),
  gO 2 p,
  gP 3 (jZ k) (oZ k 1),
  fW 5 12 k 1 l uGL (λx W h=>h) (λW d=>d.1.2.1 1 _ rfl) (λ_=>rfl),
  dY 4 11 6 13 132 (λx y=>#[x,y]) (λx y W hx o d=>by
   obtain rfl:x=p:=hx;obtain rfl:y=l:=o;apply(F.2.1 W d.2).mono;rintro e W' ⟨u,rfl,j,q⟩;exact⟨_,rfl,j,q.q.mono λg A=>XH d.2.size A⟩),
  dY 3 10 7 14 31 (λx y=>#[x,y]) (λx y W hx o d=>by
   have hx:=hx;have o:=o;apply(F.2.2 W x y hx.sm o.sm).mono;rintro e W' ⟨u,rfl,j,q⟩;exact⟨_,rfl,j,q.q.mono λg A=>XH d.2.size A⟩),
  EH 8 15 id (λx W h=>h),yEZ⟩ ⟨J.1,J.2.drew⟩ ?_
 intro V A hR d;have o:=mk1 (hR 9 (Z6 (YL kR)));have q:=mk1 (d.2);dsimp only[bW,YT];simp only[Ym,XF,XJ,XL];go_wp2;go_ret;exact⟨_,rfl,q,o⟩
def GB(O:Ord N){Q:Nat->Prop}(n c:Nat)(G H:Nat->List (Nat × Bs))(U:List (Nat × Bs))(hG:GOk N n c G H U)(a b:Nat->Nat)(ha:∀i,i<n->a i<N)(f:∀i,i<n->b i<N)(v va m:XB)(w:XA)(Y:GRq Q w v n G H U)(T:SLq Q w va n a)(Z:SLq Q w m n b):
 YN prog 143 #[v,va,m] w (rZ w λe w'=>Sm w.heap.size w' e (KY N a b (prS N a b n) G H U n)):=by
 have E:=λ(W:XA) (d:kZ w W)=>yL O n c G H U hG a b ha f v va m W (Y.keep (Kq.of_below d)) (T.keep (Kq.of_below d)) (Z.keep (Kq.of_below d))
 have I:=λ(W:XA) (d:kZ w W)=>BN O n (by have:=hG.nle;omega) a b ha f va m W (T.keep (Kq.of_below d)) (Z.keep (Kq.of_below d))
 obtain⟨s,q,j,rfl,-,-,h5⟩:=Y.ex;have l1:(dE N a G n).length=c*n:=eY N (a:=a) n λi r=>(hG.g i r).2
 have l2:(dE N b H n).length=c*n:=eY N (a:=b) n λi r=>(hG.h i r).2
 have t1:TOk N (dE N a G n):=pQ O.pos n λi r=>(hG.g i r).1
 have t2:TOk N (dE N b H n):=pQ O.pos n λi r=>(hG.h i r).1
 have h3:=yDm hG.c0 hG.n0;have h4:=hG.cn;unfold KY;have pl:=Bq O.pos (a:=a) (b:=b) n;have M:=hG.u.tm O.pos (prS N a b n);have R:(U.map (tmT N (prS N a b n))).length<=16:=by rw[XZ];exact hG.u9
 generalize prS N a b n=p at I pl M R⊢;have C:=λ(W:XA) (d:kZ w W)=>eD O pl 0 j U (by have:=hG.u9;omega) hG.u.szm hG.u.lt W (h5.sm.grow d)
 generalize U.map (tmT N p)=B at C M R⊢;have t4:=t1.app t2;have l4:(dE N a G n++dE N b H n).length=c*n+c*n:=by rw[XK,l1,l2]
 generalize dE N a G n++dE N b H n=l at E t4 l4⊢;have P:=λ(W:XA) (u z:XB) (hu:Sm 0 W u l) (L:Sm 0 W z B)=>bY 0 u z l B (by rw[XK];omega) oM oM t4.sz M.sz W (X7 hu) (X7 L)
 have K:=Hid.mk' (YV E (YV I (YV C P)));obtain⟨J,A⟩:=hE (w.alloc (.cells #[s,q,j] 150));obtain⟨k,X⟩:=hE (w.heap.size);have S:Hid (Row J k [s,q,j]/\kZ w J):=by rw[<-A.out,<-X.out];exact⟨row_new w _ _,aD (w:=w) _⟩
 obtain⟨v0,D⟩:=hE (X9 #[s,q,j]);have B1:Hid ((Ys 150 v0).run prog w=.ok (jZ k) J):=by rw[<-D.out,<-A.out,<-X.out];exact Dh
 rw[D.out];go_enter func143,ntmps143;go_wp2_with (first|(refine aG (u:=v0) (v:=jZ k) (w':=J) rfl 150 (.tmp 0) rfl ?_ ?_ ?_;rfl;exact B1.out)|fail)
 refine(gwL [pE (.agg #[s,q,j]),pE va,pE m,pM (w.heap.size<=·) l,pE (oZ k 2),pE j,pE va,pE m,pE (nv p),pM (w.heap.size<=·) B,pM (w.heap.size<=·) (l++B),pM (w.heap.size<=·) (l++B)] (λW=>Row W k [s,q,j]/\kZ w W) (λW W' f h=>⟨h.1.below f,h.2.trans (f.mono h.2.size)⟩)).draws kR kR ⟨
  nY (T:=150) 3 k 0 (cs:=[s,q,j]) uGr iGr rfl (λW d=>d.1.2.1) (λ_=>rfl),
  gO 1 va,
  gO 2 m,
  nD 0 7 1 8 2 9 78 (λx y z=>#[x,y,z]) (λx y z W hx o L d=>by
   obtain rfl:x=.agg #[s,q,j]:=hx;obtain rfl:y=va:=o;obtain rfl:z=m:=L;refine(K.1 W d.2).mono ?_;rintro e W' ⟨u,rfl,f,t⟩;exact⟨_,rfl,f,t.q.mono λg F=>XH d.2.size F⟩),
  gP 3 (jZ k) (oZ k 2),
  fW (T:=82) 4 11 k 2 j Bc (λx W h=>h) (λW d=>d.1.2.1 2 _ rfl) (λ_=>rfl),
  gO 1 va,
  gO 2 m,
  dY 6 13 7 14 87 (λx y=>#[x,y]) (λx y W hx o d=>by
   obtain rfl:x=va:=hx;obtain rfl:y=m:=o;refine(K.2.1 W d.2).mono ?_;rintro e W' ⟨u,rfl,f,rfl⟩;exact⟨_,rfl,f,rfl⟩),
  dY 5 12 8 15 149 (λx y=>#[x,y]) (λx y W hx o d=>by
   obtain rfl:x=j:=hx;obtain rfl:y=nv p:=o;refine(K.2.2.1 W d.2).mono ?_;rintro e W' ⟨u,rfl,f,t⟩;exact⟨_,rfl,f,t.q.mono λg F=>XH d.2.size F⟩),
  dY 3 10 9 16 31 (λx y=>#[x,y]) (λx y W hx o d=>by
   have hx:=hx;have o:=o;refine(K.2.2.2 W x y hx.sm o.sm).mono ?_;rintro e W' ⟨u,rfl,f,t⟩;exact⟨_,rfl,f,t.q.mono λg F=>XH d.2.size F⟩),
  EH 10 17 id (λx W h=>h),yEZ⟩ ⟨S.1,S.2.drew⟩ ?_
 intro V F hR d;have o:=mk1 (hR 11 (Z6 (YL kR)));have t:=mk1 (d.2);dsimp only[bW,YT];simp only[Ym,XF,XJ,XL];go_wp2;go_ret;exact⟨_,rfl,t.out,o.out⟩
namespace RG
variable {P:YJ}{ops:Array Yp}{Q:yAM->Act->XA->Prop}{w:XA}{a0:Act}{G:Gw}{S:XA->XA->Prop}{m k:Nat}{o:Yp}
def Gw.st(G:Gw)(m:Nat)(S:XA->XA->Prop):Flow:=⟨G.R,λ_=>G.B,λi w w'=>(i=m/\S w w')\/kZ w w',λ_=>[],λ_=>[]⟩
def jX(h:bD P Q G.flow ops a0 k o):bD P Q (G.st m S) ops a0 k o:=λa w K d e c b=>h a w K d e c λv w' hE hR=>b v w' (X7 hE) hR
def V3(h:∀(a:Act) (w:XA),PreG G ops a0 m o a w->∃w',(Yh a.eval o).run P w=.ok .skip w'/\S w w'/\G.R m Zs w'):bD P Q (G.st m S) ops a0 m o:=by
 intro a w K c g b k;obtain⟨w',i,f,hR⟩:=h a w ⟨λj d e hd=>c j d e rfl hd,g,b 0 rfl⟩;unfold Y3;rw[i];exact k _ _ (Ye ⟨rfl,f⟩) hR
def Gw.tailS{id:Nat}(G:Gw)(m:Nat)(S:XA->XA->Prop)(n:Nat)(d:∀j v w w',j≠m->S w w'->G.R j v w->G.R j v w')(g:∀w w',S w w'->G.B w->G.B w')(o:(decide (n<ops.size) && mX ops n)=true)(p:P.follows .mixedOrders=true)(s:BO ops a0.tmps.size=true)(h:iY P Q (G.st m S) ops a0 0 (ops.toList.take n))(k:G.B w.drew)
 (t:∀(V:Nat->XB) (w':XA),(∀i,i<n->G.R i (V i) w')->G.B w'->wpList P ops Q (ops.toList.drop n) (bW V (ops.toList.take n) 0 a0) w'):(Zd id ops true).wp P Q a0 w:=by
 rw[XV,decide_eq_true_eq]at o;refine qU (G.st m S) o.1 o.2 p ⟨s,uD h,λi j _ _ l _ _ v w w' hE hR=>?_,λi b _ _ w w' hE k=>?_⟩ (λ_=>k) λV w' q r=>t V w' (λi f=>q i f rfl) (r 0 rfl)
 .rcases hE with⟨f,c⟩|hE
  .exact d j v w w' (λe=>l (f.trans e.symm)) c hR
  .exact G.sR j v w w' hE hR
 .rcases hE with⟨-,c⟩|hE
  .exact g w w' c k
  .exact G.sB w w' hE k
end RG
def qP{T e:Yd}{P:YJ}{m:Func}{tmps:Array XB}{W:XA}{k c:Nat}{vs us:List XB}(t l:Zw)(o:m.results=#[.cell t T,.cell l e])(h:Row W k vs)(w:Row W c us)(n:tmps[t]? = some (jZ k))(f:tmps[l]? = some (jZ c))(g:(P.underlying T).map (·.isRow)=some true)(p:(P.info? T).map (·.size)=some vs.length)(b:(P.underlying e).map (·.isRow)=some true)(j:(P.info? e).map (·.size)=some us.length):(results m tmps).run P W=.ok (.tuple #[.agg vs.toArray,.agg us.toArray]) W:=by
 obtain⟨d,g,hd⟩:=XE.1 g;obtain⟨v,b,i⟩:=XE.1 b;have r:=yAx (P:=P) W k 0 T vs d h.2.1 g hd p;have u:=yAx (P:=P) W c 0 e us v w.2.1 b i j;have s:tmps.getD t Zs=jZ k:=by rw[XQ,n];rfl
 have q:tmps.getD l Zs=jZ c:=by rw[XQ,f];rfl
 unfold results;rw[o];simp only[Array.mapM_eq_mapM_toList,List.mapM_cons,List.mapM_nil,s,q,asAddr];simp[X1,r,u]
section
variable {P:YJ}{ops:Array Yp}{rest:List Yp}{op:Yp}{a:Act}{w w':XA}{v:XB}{Q:yAM->Act->XA->Prop}
def fJ(k:op.guard=none)(T:Yd)(t:Zw)(_:op.op=.alloc T)(_:op.dst=some t)(c:(Yh a.eval op).run P w=.ok (.value v) w')(h:wpList P ops Q rest (a.put op.dst v) w'):wpList P ops Q (op :: rest) a w:=
 ZL k λK b=>by
  unfold Y3;rw[c];exact b _ _ h
end
def Qn(g o j:Nat):(⟨g,o,none⟩:Y0).add j=⟨g,o+j,none⟩:=by
 unfold yBT;by_cases k:j=0
 .subst k;rw[yEX rfl];rfl
 .rw[yEY k]
def JB(b o n c k:Nat)(d:k<=c)(w:XA):(Zy 148 (qZ b o n c) none (some (iZ k)) none).run prog w=.ok (qZ b o k c) w:=by
 have e:¬(k:Int)<0:=oM;have f:(k:Int)<=(c:Int):=oM;go_simp
def JA{n c:Nat}(b o k:Nat)(g:k<n)(d:n<=c)(w:XA):(Zy 148 (qZ b o n c) (some (iZ k)) none none).run prog w=.ok (qZ b (o+k) (n-k) (c-k)) w:=by
 have i:¬(k:Int)<0:=oM;have j:(k:Int)<=(n:Int):=oM;have f:¬c=k:=oM;have e:=Qn b o (1*k);rw[ZV]at e;go_simp
def DY(b o n c k:Nat)(d:k<=c)(w:XA):(Zy 143 (qZ b o n c) none (some (iZ k)) none).run prog w=.ok (qZ b o k c) w:=by
 have e:¬(k:Int)<0:=oM;have f:(k:Int)<=(c:Int):=oM;go_simp
def DX{n c:Nat}(b o k:Nat)(g:k<n)(d:n<=c)(w:XA):(Zy 143 (qZ b o n c) (some (iZ k)) none none).run prog w=.ok (qZ b (o+k*4) (n-k) (c-k)) w:=by
 have i:¬(k:Int)<0:=oM;have j:(k:Int)<=(n:Int):=oM;have f:¬c=k:=oM;have e:=Qn b o (k*4);rw[YK]at e;rw[YK k 4];go_simp
def GLq.high{Q:Nat->Prop}{W:XA}{g o n c:Nat}{T:Nat->LB}(h:GLq Q W (qZ g o (n+n) c) (n+n) T):GLq Q W (qZ g (o+n) n (c-n)) n (λi=>T (n+i)):=by
 obtain⟨q,m,r,e,p,d,l,b⟩:=h;injection e with e1 e2 e3
 injection e1 with e1
 injection e1 with e1 e4
 subst e1 e3 e4;refine⟨g,o+n,c-n,rfl,oM,d,l,λj s=>?_⟩;obtain⟨x,f,k⟩:=b (n+j) oM;exact⟨x,by rw[Nat.add_assoc];exact f,k⟩
def GLq.low{Q:Nat->Prop}{W:XA}{g o n c:Nat}{T:Nat->LB}(h:GLq Q W (qZ g o (n+n) c) (n+n) T):GLq Q W (qZ g o n c) n T:=by
 obtain⟨p,m,l,e,f,d,b,k⟩:=h;injection e with e1 e2 e3
 injection e1 with e1
 injection e1 with e1 e4
 subst e1 e3 e4;exact⟨g,o,c,rfl,oM,d,b,λj i=>k j oM⟩
def SLq.high{Q:Nat->Prop}{W:XA}{g o n c:Nat}{T:Nat->Nat}(h:SLq Q W (qZ g o (n+n) c) (n+n) T):SLq Q W (qZ g (o+n*4) n (c-n)) n (λi=>T (n+i)):=by
 obtain⟨m,f,p,e,l,b,d,k⟩:=h;injection e with e1 e2 e3
 injection e1 with e1
 injection e1 with e1 e4
 subst e1 e3 e4;refine⟨g,o+n*4,c-n,rfl,oM,b,d,λj q=>?_⟩;have:=k (n+j) oM;rw[show o+4*(n+j)=o+n*4+4*j by omega]at this;exact this
def SLq.low{Q:Nat->Prop}{W:XA}{g o n c:Nat}{T:Nat->Nat}(h:SLq Q W (qZ g o (n+n) c) (n+n) T):SLq Q W (qZ g o n c) n T:=by
 obtain⟨p,m,l,e,f,d,b,k⟩:=h;injection e with e1 e2 e3
 injection e1 with e1
 injection e1 with e1 e4
 subst e1 e3 e4;exact⟨g,o,c,rfl,oM,d,b,λj i=>k j oM⟩
def CrR(Q:Nat->Prop)(w:XA)(n:Nat)(G H:Nat->LB)(U:LB)(e:XB)(w':XA):Prop:=kZ w w'/\∃k b,e=.tuple #[.agg k,.agg b]/\k.size=3/\b.size=3/\k.all (·.oneCell')=true/\b.all (·.oneCell')=true/\GRq Q w' (.agg k) n (λi=>G (n+i)) H U/\GRq Q w' (.agg b) n G (λi=>H (n+i)) U
def IB{Q:Nat->Prop}(n:Nat)(he:0<n)(hn:n<=500)(G H:Nat->LB)(U:LB)(v:XB)(w:XA)(h0:GRq Q w v (n+n) G H U):
 cZ 142 #[v] w (Ret (CrR Q w n G H U)):=by
 obtain⟨vg,vh,d,rfl,h3,h4,h5⟩:=h0.ex;obtain⟨b,c,c1,rfl,S,-⟩:=id h3;obtain⟨g,f,c2,rfl,h9,-⟩:=id h4;obtain⟨g3,c3,rfl,-⟩:=id h5;have O:Hid (GLq Q w (qZ b (c+n) n (c1-n)) n (λi=>G (n+i))/\GLq Q w (qZ g f n c2) n H/\GLq Q w (qZ b c n c1) n G/\GLq Q w (qZ g (f+n) n (c2-n)) n (λi=>H (n+i))/\SmQ Q w (sZ g3 U.length c3) U):=⟨h3.high,h4.low,h3.low,h4.high,h5⟩
 have B:=JA b c n oM S;have D:=JB g f (n+n) c2 n oM;have C:=JB b c (n+n) c1 n oM;have t:=JA g f n oM h9;rw[Nat.add_sub_cancel]at B t;obtain⟨m,hm⟩:=yH (n+n);have hq:(m:Int).tdiv 2=(n:Int):=by rw[<-hm.out,yAK oM];omega
 rw[hm.out]at B D C t;rw[hm.out];obtain⟨d,q⟩:=yH (sZ g3 U.length c3);have T:d.oneCell'=true:=by rw[<-q.out];rfl
 rw[q.out]at O;rw[q.out];obtain⟨k,R⟩:=yH w.heap.size;obtain⟨z,A⟩:=yH (w.alloc (.cells #[qZ b c m c1,qZ g f m c2,d] 150));obtain⟨P,N⟩:=yH (z.alloc (.cells #[nZ,nZ,nZ] 150));obtain⟨J,Z⟩:=yH (P.alloc (.cells #[nZ,nZ,nZ] 150));have h7:P.heap.size=k+2:=by rw[<-N.out,XP,<-A.out,XP,R.out]
 have E:z.heap.size=k+1:=by rw[<-A.out,XP,R.out]
 have I:Hid (kZ w J/\Row J k [qZ b c m c1,qZ g f m c2,d]/\Row J (k+1) [nZ,nZ,nZ]/\Row J (k+2) [nZ,nZ,nZ]):=by
  have b1:kZ w z:=A.out▸aD _;have p:Row z k [qZ b c m c1,qZ g f m c2,d]:=A.out▸R.out▸row_new w _ _;have l:=row_new z [nZ,nZ,nZ] 150;have o:=row_new (z.alloc (.cells #[nZ,nZ,nZ] 150)) [nZ,nZ,nZ] 150;rw[XP,E]at o;rw[E]at l;rw[<-Z.out,<-N.out];exact⟨(b1.alloc b1.size _).alloc (by rw[XP];have:=b1.size;omega) _,(p.alloc _).alloc _,l.alloc _,o⟩
 obtain⟨v0,X⟩:=yH (X9 #[qZ b c m c1,qZ g f m c2,d]);have B1:Hid ((Ys 150 v0).run prog w=.ok (jZ k) z):=X.out▸A.out▸R.out▸Dh;rw[X.out];have HK:Hid (w.heap.size=k):=R;have HV:Hid (d.oneCell'=true):=T;have HZ:Hid (z.heap.size=k+1/\P.heap.size=k+2):=⟨E,h7⟩
 have cK:J.cell? ⟨k,0,none⟩=some (qZ b c m c1):=I.2.1.2.1 0 _ rfl;clear h0 h3 h4 h5 S h9 T R E h7;go_enter func142,ntmps142;go_wp2_with (first|(refine aG (u:=v0) (v:=jZ k) (w':=z) rfl 150 (.tmp 0) rfl ?_ ?_ ?_;rfl;exact B1)|(refine fJ (v:=jZ (k+1)) (w':=P) rfl 150 2 rfl rfl ?_ ?_;(rw[<-N.out,<-HZ.1];kernel_rfl))|(refine fJ (v:=jZ (k+2)) (w':=J) rfl 150 3 rfl rfl ?_ ?_;(rw[<-Z.out,<-HZ.2];kernel_rfl))|fail)
 clear cK hq;obtain⟨Y,ha⟩:=yH (qZ b c m c1);obtain⟨sh,hc⟩:=yH (qZ g f m c2);rw[ha.out]at B C I;rw[hc.out]at D t I;obtain⟨p,L⟩:=yH (#[qZ b (c+n) n (c1-n),qZ g f n c2,d]:Array XB);obtain⟨y,K⟩:=yH (#[qZ b c n c1,qZ g (f+n) n (c2-n),d]:Array XB);have r:Hid (p.size=3/\y.size=3/\p.all (·.oneCell')=true/\y.all (·.oneCell')=true):=by
  rw[<-L.out,<-K.out,<-q.out];exact⟨rfl,rfl,kR,kR⟩
 have HI:Hid (gZ 150 p.size/\gZ 150 y.size/\gZ 150 p.toList.length/\gZ 150 y.toList.length):=by
  rw[XU,XU,r.1,r.2.1];exact⟨iGr,iGr,iGr,iGr⟩
 refine(gwL [pE (jZ k),pE Y,pE (iZ n),pE (qZ b (c+n) n (c1-n)),pE (oZ k 1),pE sh,pE (iZ n),pE (qZ g f n c2),pE (oZ k 2),pE d,pE (.agg #[qZ b (c+n) n (c1-n),qZ g f n c2,d]),
  pE (jZ k),pE Y,pE (iZ n),pE (qZ b c n c1),pE (oZ k 1),pE sh,pE (iZ n),pE (qZ g (f+n) n (c2-n)),pE (oZ k 2),pE d,pE (.agg #[qZ b c n c1,qZ g (f+n) n (c2-n),d]),⟨λ_ W=>Row W (k+1) p.toList,λ_ _ _ F h=>h.below F⟩] (λW=>kZ w W/\Row W k [Y,sh,d]/\(k+1<W.heap.size/\W.there (k+1) 0 3)/\Row W (k+2) [nZ,nZ,nZ]) (λW W' F h=>⟨h.1.trans (F.mono h.1.size),h.2.1.below F,⟨XC h.2.2.1.1 F.size,eC h.2.2.1.2 F h.2.2.1.1⟩,h.2.2.2.below F⟩)).tailS 22 (λW W'=>W'=W.setCells (k+1) 0 p.toList) 23 (λj v W W' V M hR=>by
  subst M;match j,hR,V with
  | 0,hR,_=>exact hR
  | 1,hR,_=>exact hR
  | 2,hR,_=>exact hR
  | 3,hR,_=>exact hR
  | 4,hR,_=>exact hR
  | 5,hR,_=>exact hR
  | 6,hR,_=>exact hR
  | 7,hR,_=>exact hR
  | 8,hR,_=>exact hR
  | 9,hR,_=>exact hR
  | 10,hR,_=>exact hR
  | 11,hR,_=>exact hR
  | 12,hR,_=>exact hR
  | 13,hR,_=>exact hR
  | 14,hR,_=>exact hR
  | 15,hR,_=>exact hR
  | 16,hR,_=>exact hR
  | 17,hR,_=>exact hR
  | 18,hR,_=>exact hR
  | 19,hR,_=>exact hR
  | 20,hR,_=>exact hR
  | 21,hR,_=>exact hR
  | 22,_,V=>exact absurd rfl V
  | _+23,_,_=>trivial) (λW W' M h=>by subst M;exact⟨RG.below_setCells (by rw[HK.out];omega) _ _ _ h.1,aR h.2.1 oM,⟨by rw[setCells_size];exact h.2.2.1.1,Zg h.2.2.1.2 _ _ _⟩,aR h.2.2.2 oM⟩) kR kR kR ⟨
  jX (gO 1 (jZ k)),
  jX (fW 0 9 k 0 Y uGL (λx W h=>h) (λW l=>l.2.1.2.1 0 _ rfl) (λ_=>rfl)),
  jX (gO 4 (iZ n)),
  jX (RG.gX 1 10 2 11 B),
  jX (gP 1 (jZ k) (oZ k 1)),
  jX (fW 4 13 k 1 sh uGL (λx W h=>h) (λW l=>l.2.1.2.1 1 _ rfl) (λ_=>rfl)),
  jX (gO 4 (iZ n)),
  jX (RG.gX 5 14 6 15 D),
  jX (gP 1 (jZ k) (oZ k 2)),
  jX (fW 8 17 k 2 d Bc (λx W h=>h) (λW l=>l.2.1.2.1 2 _ rfl) (λ_=>rfl)),
  jX (Lg [(12,qZ b (c+n) n (c1-n)),(16,qZ g f n c2),(18,d)] (.agg #[qZ b (c+n) n (c1-n),qZ g f n c2,d]) (λa W o=>⟨o.n 3 12 kR kR,o.n 7 16 kR kR,o.n 9 18 kR kR,yEZ⟩) (λ_=>rfl) (λW=>by
   rw[<-q.out];kernel_rfl)),
  jX (gO 1 (jZ k)),
  jX (fW 11 20 k 0 Y uGL (λx W h=>h) (λW l=>l.2.1.2.1 0 _ rfl) (λ_=>rfl)),
  jX (gO 4 (iZ n)),
  jX (RG.gX 12 21 13 22 C),
  jX (gP 1 (jZ k) (oZ k 1)),
  jX (fW 15 24 k 1 sh uGL (λx W h=>h) (λW l=>l.2.1.2.1 1 _ rfl) (λ_=>rfl)),
  jX (gO 4 (iZ n)),
  jX (RG.gX 16 25 17 26 t),
  jX (gP 1 (jZ k) (oZ k 2)),
  jX (fW 19 28 k 2 d Bc (λx W h=>h) (λW l=>l.2.1.2.1 2 _ rfl) (λ_=>rfl)),
  jX (Lg [(23,qZ b c n c1),(27,qZ g (f+n) n (c2-n)),(29,d)] (.agg #[qZ b c n c1,qZ g (f+n) n (c2-n),d]) (λa W o=>⟨o.n 14 23 kR kR,o.n 18 27 kR kR,o.n 20 29 kR kR,yEZ⟩) (λ_=>rfl) (λW=>by
   rw[<-q.out];kernel_rfl)),
  V3 λa W o=>⟨_,by
   have h1:a.eval (.tmp 19)=.agg p:=by
    have:=o.n 10 19 kR kR;rw[<-L.out];exact this
   have h2:a.eval (.tmp 2)=jZ (k+1):=(o.o 2 kR).trans rfl;have hT:W.there (k+1) 0 p.size:=by rw[r.1];exact o.b.2.2.1.2
   unfold Yh;simp only[h1,h2,yBE,yA3,X1,Zr,Yz,yDw W (k+1) 0 150 p hT HI.1 r.2.2.1],rfl,⟨by rw[setCells_size];exact o.b.2.2.1.1,YY W (k+1) 0 p.toList (by rw[XU,r.1];exact o.b.2.2.1.2),Zg (by rw[XU,r.1];exact o.b.2.2.1.2) _ _ _⟩⟩,yEZ⟩ ⟨I.1.drew,I.2.1,⟨I.2.2.1.1,I.2.2.1.2.2⟩,I.2.2.2⟩ ?_
 intro V w3 hR l;have o:V 21=.agg #[qZ b c n c1,qZ g (f+n) n (c2-n),d]:=hR 21 dC;have F:Row w3 (k+1) p.toList:=hR 22 dC;rw[K.out]at o;obtain⟨M,h6⟩:=yH (w3.setCells (k+2) 0 y.toList);have K5:Hid (Row M (k+1) p.toList/\Row M (k+2) y.toList/\kZ w M):=by
  rw[<-h6.out];exact⟨aR F oM,l.2.2.2.put (by rw[XU,r.2.1];rfl),RG.below_setCells (by rw[HK.out];omega) _ _ _ l.1⟩
 have HT:Hid (w3.there (k+2) 0 y.size):=by
  rw[r.2.1];exact l.2.2.2.2.2
 have HP:Hid (CrR Q w n G H U (.tuple #[.agg p.toList.toArray,.agg y.toList.toArray]) M):=by
  have kq:∀ {Q:Nat->Prop},Kq Q w M:=Kq.of_below K5.2.2;refine⟨K5.2.2,p,y,rfl,r.1,r.2.1,r.2.2.1,r.2.2.2,?_,?_⟩
  .rw[<-L.out];exact⟨_,_,_,rfl,O.1.keep kq,O.2.1.keep kq,O.2.2.2.2.keep kq⟩
  .rw[<-K.out];exact⟨_,_,_,rfl,O.2.2.1.keep kq,O.2.2.2.1.keep kq,O.2.2.2.2.keep kq⟩
 dsimp only[bW,YT,yAb,yAd];simp only[Ym,XF,XJ,XL];obtain⟨x2,h8⟩:=yH (X9 y);rw[o,h8.out];clear hR l o F B D C t;generalize V 0=s0;generalize V 1=s1;generalize V 2=s2;generalize V 3=s3;generalize V 4=s4;generalize V 5=s5;generalize V 6=s6;generalize V 7=s7;generalize V 8=s8;generalize V 9=s9;generalize V 10=s10;generalize V 11=s11;generalize V 12=s12;generalize V 13=s13;generalize V 14=s14;generalize V 15=s15;generalize V 16=s16;generalize V 17=s17;generalize V 18=s18;generalize V 19=s19;generalize V 20=s20;go_wp2_with (first|(refine Yk rfl 150 (.tmp 3) _ rfl (k+2) 0 y ?_ ?_ ?_ ?_ ?_ ?_;rfl;exact h8.symm;exact HT;exact HI.2.1;exact r.2.2.2;rw[h6.out])|fail)
 refine XN (qP 2 3 rfl K5.1 K5.2.1 rfl rfl uGr HI.2.2.1 uGr HI.2.2.2) rfl ?_;exact⟨_,rfl,HP⟩
def GRq.ar{Q:Nat->Prop}{W:XA}{v:XB}{n:Nat}{G H:Nat->LB}{U:LB}(h:GRq Q W v n G H U):∃e:Array XB,v=.agg e/\e.size=3/\e.all (·.oneCell')=true:=by
 obtain⟨f,k,c,rfl,⟨l,b,c1,rfl,-⟩,⟨i,d,c2,rfl,-⟩,⟨j,g,rfl,-⟩⟩:=h.ex;exact⟨_,rfl,rfl,kR⟩
structure FgI(w W:XA)(k x xi:Nat)(vg vh vu:XB):Prop where
 bl:kZ w W
 r2:Row W k [vg,vh,vu]
 r3:Row W (k+1) (wn x)
 r4:Row W (k+2) [nZ,nZ,nZ]
def FgI.grow{w W W':XA}{k x c:Nat}{d e f:XB}(h:FgI w W k x c d e f)(b:kZ W W'):FgI w W' k x c d e f:=⟨h.bl.trans (b.mono h.bl.size),h.r2.below b,h.r3.below b,h.r4.below b⟩
def FgI.drew{w W:XA}{k x b:Nat}{c d e:XB}(h:FgI w W k x b c d e):FgI w W.drew k x b c d e:=h.grow ⟨rfl,rfl,rfl,XD _,λ_ _=>rfl⟩
def GH(O:Ord N){Q:Nat->Prop}(n c:Nat)(hu:0<n)(G H:Nat->List (Nat × Bs))(U:List (Nat × Bs))(hG:GOk N (n+n) c G H U)(x:Nat)(hx:x<N)(v:XB)(w:XA)(hQ:∀g,w.heap.size<=g->Q g)(h0:GRq Q w v (n+n) G H U):
 YN prog 146 #[v,nv x] w (rZ w λe w'=>GRq Q w' e n (mW N (sIn N x) x n G) (mW N x (sIn N x) n H) U):=by
 obtain⟨q,r,i,rfl,h3,h4,h5⟩:=h0.ex;have hj:sIn N x<N:=Y8 _ O.pos;have hl:=λW=>wE O x hx W
 have D:=λ(W:XA) (f:kZ w W)=>LA O n (by have:=hG.nle;omega) c (by have:=hG.cle;omega) hG.c0 G (sIn N x) x hj hx hG.g q W (h3.keep (Kq.of_below f))
 have J:=λ(W:XA) (f:kZ w W)=>LA O n (by have:=hG.nle;omega) c (by have:=hG.cle;omega) hG.c0 H x (sIn N x) hx hj hG.h r W (h4.keep (Kq.of_below f))
 generalize mW N (sIn N x) x n G=G' at D⊢;generalize mW N x (sIn N x) n H=Z at J⊢;generalize sIn N x=j at hl D J;have HX:=mk3 hl D J;have HU:=mk2 h5 hQ;obtain⟨k,hk⟩:=hE (w.heap.size);obtain⟨o,A⟩:=hE (w.alloc (.cells #[q,r,i] 150));obtain⟨C,t⟩:=hE (o.alloc (.cells (wn x).toArray 44));obtain⟨w3,F⟩:=hE (C.alloc (.cells #[.slice none 0 0,.slice none 0 0,.slice none 0 0] 150));have L:o.heap.size=k+1:=by rw[<-A.out,XP,hk.out]
 have h8:C.heap.size=k+2:=by rw[<-t.out,XP,L]
 have K3:Hid (FgI w w3 k x j q r i):=by
  have b1:kZ w o:=by rw[<-A.out];exact aD _
  have l:kZ o C:=by rw[<-t.out];exact aD _
  have m:kZ C w3:=by rw[<-F.out];exact aD _
  have s:Row o k [q,r,i]:=by rw[<-A.out,<-hk.out];exact row_new w _ _
  have p:Row C (k+1) (wn x):=by rw[<-t.out,<-L];exact row_new o _ _
  have B:Row w3 (k+2) [.slice none 0 0,.slice none 0 0,.slice none 0 0]:=by rw[<-F.out,<-h8];exact row_new C _ _
  exact⟨(b1.trans (l.mono b1.size)).trans (m.mono (XH b1.size l.size)),(s.below l).below m,p.below m,B⟩
 obtain⟨v0,P⟩:=hE (X9 #[q,r,i]);obtain⟨vx,B⟩:=hE (nv x);have B1:Hid ((Ys 150 v0).run prog w=.ok (jZ k) o):=by rw[<-P.out,<-A.out,<-hk.out];exact Dh
 have B2:Hid ((Ys 44 vx).run prog o=.ok (jZ (k+1)) C):=by rw[<-B.out,<-t.out,<-L];exact boxS x (w:=o)
 have HZ:=mk1 (h8);obtain⟨d,hm,hq⟩:=XE.1 u40;have HD:=mk2 hm hq;rw[P.out,B.out];go_enter func146,ntmps146;go_wp2_with (first|(refine aG (u:=v0) (v:=jZ k) (w':=o) rfl 150 (.tmp 0) rfl ?_ ?_ ?_;rfl;exact B1.out)|(refine aG (u:=vx) (v:=jZ (k+1)) (w':=C) rfl 44 (.tmp 1) rfl ?_ ?_ ?_;rfl;exact B2.out)|(refine fJ (v:=jZ (k+2)) (w':=w3) rfl 150 4 rfl rfl ?_ ?_;(rw[<-F.out,<-HZ.out];kernel_rfl))|(refine ldR 3 K3.r3.2.1 B u40 nSc ?_)|fail)
 rw[<-B.out];refine(HX.1 w3).mono ?_;rintro e w4 ⟨u,rfl,ht,rfl⟩;obtain⟨M,I⟩:=hE (w4.heap.size);obtain⟨w5,h9⟩:=hE (w4.alloc (.cells #[uZ 0,uZ 0,uZ 0,uZ 0] 44));obtain⟨w6,hi⟩:=hE (w5.setCells M 0 (wn j));have F5:Hid (Row w5 M [uZ 0,uZ 0,uZ 0,uZ 0]/\kZ w4 w5):=by rw[<-h9.out,<-I.out];exact⟨row_new w4 _ _,aD _⟩
 have K6:Hid (FgI w w6 k x j q r i/\Row w6 M (wn j)):=by
  rw[<-hi.out];exact⟨(K3.grow ht).grow (RG.below_setCells (by rw[I.out];exact XD _) _ _ _ F5.2),F5.1.put rfl⟩
 obtain⟨vi,h6⟩:=hE (nv j);rw[h6.out];go_wp2_with (first|(refine alR 5 I h9 ?_)|(refine stR 5 hi h6 F5.1.2.2 nSc (aI (n:=j)) ?_)|fail)
 refine(gwL [pE (jZ k),pE q,pE (nv j),pE (nv x),pG (λg=>w.heap.size<=g/\g≠k+2) n G',pE (oZ k 1),pE r,pE (nv x),pE (nv j),pG (λg=>w.heap.size<=g/\g≠k+2) n Z,pE (oZ k 2),pE i,⟨λv W=>∃x y,v=.agg #[x,y,i]/\GLq (λg=>w.heap.size<=g/\g≠k+2) W x n G'/\GLq (λg=>w.heap.size<=g/\g≠k+2) W y n Z,λ_ _ _ l ⟨x,y,T,X,h3⟩=>⟨x,y,T,X.keep (Kq.of_below l),h3.keep (Kq.of_below l)⟩⟩] (λW=>FgI w W k x j q r i/\Row W M (wn j)) (λW W' l h=>⟨h.1.grow l,h.2.below l⟩)).last 13 kR kR kR ⟨
  gO 2 (jZ k),
  fW (T:=148) 0 8 k 0 q uGL (λx W h=>h) (λW f=>f.1.r2.2.1 0 _ rfl) (λ_=>rfl),
  nY (T:=44) 5 M 0 (cs:=(wn j)) rSc nSc rfl (λW f=>f.2.2.1) (λ_=>rfl),
  nY (T:=44) 3 (k+1) 0 (cs:=(wn x)) rSc nSc rfl (λW f=>f.1.r3.2.1) (λ_=>rfl),
  nD 1 9 2 10 3 11 190 (λx y z=>#[x,y,z]) (λa b c W p l s f=>by
   obtain rfl:a=q:=p;obtain rfl:b=nv j:=l;obtain rfl:c=nv x:=s;refine(HX.2.1 W f.1.bl).mono ?_;rintro e W' ⟨u,rfl,l,m⟩;exact⟨_,rfl,l,m.mono λg E=>⟨XH f.1.bl.size E,by have:=f.1.r4.1;omega⟩⟩),
  gP 2 (jZ k) (oZ k 1),
  fW (T:=148) 5 13 k 1 r uGL (λx W h=>h) (λW f=>f.1.r2.2.1 1 _ rfl) (λ_=>rfl),
  nY (T:=44) 3 (k+1) 0 (cs:=(wn x)) rSc nSc rfl (λW f=>f.1.r3.2.1) (λ_=>rfl),
  nY (T:=44) 5 M 0 (cs:=(wn j)) rSc nSc rfl (λW f=>f.2.2.1) (λ_=>rfl),
  nD 6 14 7 15 8 16 190 (λx y z=>#[x,y,z]) (λa b c W p l s f=>by
   obtain rfl:a=r:=p;obtain rfl:b=nv x:=l;obtain rfl:c=nv j:=s;refine(HX.2.2 W f.1.bl).mono ?_;rintro e W' ⟨u,rfl,l,m⟩;exact⟨_,rfl,l,m.mono λg E=>⟨XH f.1.bl.size E,by have:=f.1.r4.1;omega⟩⟩),
  gP 2 (jZ k) (oZ k 2),
  fW (T:=82) 10 18 k 2 i Bc (λx W h=>h) (λW f=>f.1.r2.2.1 2 _ rfl) (λ_=>rfl),
  bJ (λa W m=>by
   have T:=m.n 4 12 kR kR;have X:=m.n 9 17 kR kR;have h3:=m.n 11 19 kR kR;obtain⟨V,Y,c1,e1,-⟩:=id T;obtain⟨S,K,c2,R,-⟩:=id X;obtain⟨g3,c3,e3,-⟩:=HU.1;rw[e1]at T;rw[R]at X;refine⟨[(12,.slice (some ⟨V,Y,none⟩) n c1),(17,.slice (some ⟨S,K,none⟩) n c2),(19,i)],.agg #[.slice (some ⟨V,Y,none⟩) n c1,.slice (some ⟨S,K,none⟩) n c2,i],W,⟨e1,R,h3,yEZ⟩,?_,XR _ _,⟨_,_,rfl,T,X⟩⟩;rw[e3];kernel_rfl),yEZ⟩ ⟨K6.1.drew,K6.2⟩ ?_
 intro V K hR f;obtain⟨p,m,hV,h7,R⟩:∃x y,V 12=.agg #[x,y,i]/\GLq (λg=>w.heap.size<=g/\g≠k+2) K x n G'/\GLq (λg=>w.heap.size<=g/\g≠k+2) K y n Z:=hR 12 dC;have hr:=HU.1.keep (Kq.of_below f.1.bl);have s:∀g,w.heap.size<=g/\g≠k+2->Q g:=λg E=>HU.2 g E.1
 have gr:GRq Q K (.agg #[p,m,i]) n G' Z U:=⟨_,_,_,rfl,h7.mono s,R.mono s,hr⟩
 obtain⟨e,he,hw,hn⟩:=gr.ar;obtain rfl:#[p,m,i]=e:=by injection he
 obtain⟨w8,Y⟩:=hE (K.setCells (k+2) 0 [p,m,i]);have K8:Hid (kZ w w8/\Row w8 (k+2) [p,m,i]/\GRq Q w8 (.agg #[p,m,i]) n G' Z U):=by
  rw[<-Y.out];have kq:Kq (λg=>w.heap.size<=g/\g≠k+2) K (K.setCells (k+2) 0 [p,m,i]):=Kq.set λg E=>E.2
  have S:kZ w (K.setCells (k+2) 0 [p,m,i]):=RG.below_setCells (by rw[hk.out];omega) _ _ _ f.1.bl;exact⟨S,f.1.r4.put rfl,_,_,_,rfl,(h7.keep kq).mono s,(R.keep kq).mono s,HU.1.keep (Kq.of_below S)⟩
 have HT:=mk2 f.1.r4.2.2 hn;dsimp only[bW,YT,yAb,yAd];simp only[Ym,XF,XJ,XL];obtain⟨ve,S⟩:=hE (X9 #[p,m,i]);rw[hV,S.out];go_wp2_with (first|(refine Yk rfl 150 (.tmp 4) _ rfl (k+2) 0 #[p,m,i] ?_ ?_ ?_ ?_ ?_ ?_;rfl;exact S.symm;exact HT.1;exact iGr;exact HT.2;rw[show(#[p,m,i]:Array XB).toList=[p,m,i] from rfl,Y.out])|fail)
 refine XN (aF 4 (T:=150) rfl K8.2.1 rfl uGr iGr) rfl ?_;exact⟨_,rfl,K8.1,K8.2.2⟩
def lgV(r:Nat):XB:=.agg #[jZ r]
def uLg:yZ 159:=yQ
def iLg:gZ 159 1:=gQ
def uLp:wZ 155:=wQ
def O1{r:Nat}{w:XA}:(Ys 159 (lgV r)).run prog w=.ok (jZ w.heap.size) (w.alloc (.cells #[jZ r] 159)):=kR
def eN{W:XA}{r K o:Nat}{vs:List XB}{L:Bs}(h:hZ W r 0 L)(k:r≠K):hZ (W.setCells K o vs) r 0 L:=λj b=>by
 have e:=aE (k:=K) vs o W r k;rw[X4 (a:=⟨r,0+j,none⟩) e,Y2 (a:=⟨r,0+j,none⟩) e];exact h j b
def Ip(k:ByteArray)(w:XA)(b:k.size<=1048576):cZ 133 #[.string k] w (rZ w λe w'=>∃r,e=lgV r/\w.heap.size<=r/\r<w'.heap.size/\hZ w' r 0 (newL k.data.toList)):=by
 obtain⟨L,q⟩:=hE (newL k.data.toList);rw[q.out];obtain⟨n,c⟩:=hE (w.alloc (.cells #[.pointer none] 159));have l:Hid (Row n w.heap.size [.pointer none]/\kZ w n):=by rw[<-c.out];exact⟨row_new w _ _,aD _⟩
 go_enter func133,ntmps133;go_wp2_with fail
 rw[c.out];refine(H5 k n b).mono ?_;rintro e s ⟨u,rfl,f,r,rfl,p,o,i⟩;rw[q.out]at i;have t:=XC l.1.1 p;have d:=mk4 (l.1.below f) (l.2.trans (f.mono l.2.size)) i o;obtain⟨m,g⟩:=hE (s.setCells w.heap.size 0 [jZ r]);have j:Hid (Row m w.heap.size [jZ r]/\kZ w m/\hZ m r 0 L/\r<m.heap.size):=by
  rw[<-g.out];exact⟨d.1.put rfl,RG.below_setCells (XD _) _ _ _ d.2.1,eN d.2.2.1 oM,by rw[setCells_size];exact d.2.2.2⟩
 go_wp2_with (refine bH (v:=.agg #[jZ r]) (w':=s) rfl (.build 159 _) rfl ?_ ?_;kernel_rfl;refine yBN ?_)
 show wpList _ _ _ _ _ _;refine Yk rfl 159 _ _ rfl w.heap.size 0 #[jZ r] ?_ ?_ ?_ ?_ ?_ ?_
 .kernel_rfl
 .kernel_rfl
 .exact d.1.2.2
 .exact iLg
 .kernel_rfl
 rw[show(#[jZ r]).toList=[jZ r] from rfl,g.out];go_wp2;refine XN (aF 2 rfl j.1 rfl uLg iLg) rfl ?_;exact⟨_,rfl,j.2.1,r,rfl,oM,j.2.2.2,j.2.2.1⟩
def Ae(O:Ord N)(r:Nat)(L:Bs)(w:XA)(t:hZ w r 0 L)(D:L.size=32):
 cZ 187 #[.agg #[jZ r]] w (Ret λe w'=>SP.Only r 0 32 w w'/\hZ w' r 0 (aW L)/\e=nv (cha N L)):=by
 have q:=Holds.lt t oM;obtain⟨k,c⟩:=yH ((w.alloc (.cells #[jZ r] 157)).alloc (.cells #[uZ 0,uZ 0,uZ 0,uZ 0] 44));have o:Hid (Row k (w.heap.size+1) [uZ 0,uZ 0,uZ 0,uZ 0]/\kZ w k/\hZ k r 0 L/\k.rangeAt w.heap.size 0 [jZ r]):=by
  rw[<-c.out];have b:kZ w ((w.alloc (.cells #[jZ r] 157)).alloc (.cells #[uZ 0,uZ 0,uZ 0,uZ 0] 44)):=(aD _).alloc (by rw[XP];omega) _;have hR:=row_new (w.alloc (.cells #[jZ r] 157)) [uZ 0,uZ 0,uZ 0,uZ 0] 44;rw[XP]at hR;exact⟨hR,b,Holds.below t b q,((row_new w [jZ r] 157).alloc _).2.1⟩
 clear t;obtain⟨d,l,n⟩:=XE.1 u124;have y:Hid (prog.underlying 157=some d/\d.isRow=true):=⟨l,n⟩
 clear l n;have z:=D2 O r L ⟨#[99,104,97,108,108,101,110,103,101]⟩ k dC o.2.2.1 D;have g:mK N (Dk L (⟨#[99,104,97,108,108,101,110,103,101]⟩:ByteArray).data.toList 64)=cha N L:=rfl;have j:uH L (⟨#[99,104,97,108,108,101,110,103,101]⟩:ByteArray).data.toList=aW L:=rfl;rw[g,j]at z;have x:(aW L).size=32:=aY;have B:=Hid.mk' z;obtain⟨m,A⟩:=hE (cha N L);obtain⟨E,b⟩:=hE (aW L);rw[A.out,b.out]at B;rw[b.out]at x;rw[A.out,b.out];go_enter func187,ntmps187;go_wp2_with (refine YI rfl 157 _ rfl w.heap.size 0 ?_ [jZ r] d ?_ ?_ ?_ ?_ ?_;kernel_rfl;(rw[c.out];exact o.2.2.2);exact y.1;exact y.2;exact i124;rw[c.out])
 refine B.mono ?_;rintro e F ⟨v,rfl,C,a,rfl⟩;have G:=Holds.lt a oM;have p:=mk3 (o.1.only C oM) ((SP.Only.of_below o.2.1 rfl q).trans C) a;obtain⟨u,i⟩:=hE (F.setCells (w.heap.size+1) 0 (wn m));have s:Hid (Row u (w.heap.size+1) (wn m)/\SP.Only r 0 32 w u/\hZ u r 0 E):=by rw[<-i.out];exact⟨p.1.put rfl,dT p.2.1 q oM,eN p.2.2 oM⟩
 obtain⟨H,f⟩:=hE (nv m);rw[f.out];go_wp2_with (refine Yk rfl 44 _ _ rfl (w.heap.size+1) 0 (wn m).toArray ?_ ?_ ?_ ?_ ?_ ?_;rfl;exact f.symm;exact p.1.2.2;exact i40;exact aI;rw[show(wn m).toArray.toList=wn m from rfl,i.out])
 refine XN (aF 2 rfl s.1 rfl u40 i40) rfl ?_;exact⟨_,rfl,s.2.1,s.2.2,rfl⟩
def chS(N:Nat)(L:Bs):Nat:=lJ (cha N L)
def GU{L:Bs}[NeZero N](d:1<N)(b:cha N L<N):chS N L=(kV N L).val:=by
 unfold chS kV Og lJ;generalize cha N L=c at b;have hv:(ofF N c).val=c:=X6 b;by_cases k:c=0
 .subst k;rw[yEX rfl,yEX nU];exact(X6 d).symm
 .rw[yEY k,yEY (λe=>k (by rw[<-hv,e];exact yA6 N)),hv]
def zG(O:Ord N)(r:Nat)(L:Bs)(w:XA)(x:hZ w r 0 L)(K:L.size=32):
 cZ 136 #[lgV r] w (Ret λe w'=>SP.Only r 0 32 w w'/\hZ w' r 0 (aW L)/\e=nv (chS N L)):=by
 have t:=Holds.lt x oM;obtain⟨k,c⟩:=yH ((w.alloc (.cells #[jZ r] 159)).alloc (.cells #[uZ 0,uZ 0,uZ 0,uZ 0] 44));have s:Hid (Row k (w.heap.size+1) [uZ 0,uZ 0,uZ 0,uZ 0]/\kZ w k/\hZ k r 0 L/\k.rangeAt w.heap.size 0 [jZ r]):=by
  rw[<-c.out];have b:kZ w ((w.alloc (.cells #[jZ r] 159)).alloc (.cells #[uZ 0,uZ 0,uZ 0,uZ 0] 44)):=(aD _).alloc (by rw[XP];omega) _;have hR:=row_new (w.alloc (.cells #[jZ r] 159)) [uZ 0,uZ 0,uZ 0,uZ 0] 44;rw[XP]at hR;exact⟨hR,b,Holds.below x b t,((row_new w [jZ r] 159).alloc _).2.1⟩
 clear x;obtain⟨d,j,l⟩:=XE.1 u124;have D:Hid (prog.underlying 157=some d/\d.isRow=true):=⟨j,l⟩
 clear j l;have M:=Ae O r L k s.2.2.1 K;have z:cha N L<N:=oS O;have n:=λW=>Gc O z W
 have B:lJ (cha N L)=chS N L:=rfl;rw[B]at n;have A:(aW L).size=32:=aY;obtain⟨m,G⟩:=hE (cha N L);obtain⟨q,C⟩:=hE (chS N L);obtain⟨P,b⟩:=hE (aW L);have H:=Hid.mk' M;have F:=Hid.mk' n;rw[G.out,b.out]at H;rw[G.out,C.out]at F;rw[b.out]at A;rw[C.out,b.out];unfold lgV;go_enter func136,ntmps136;go_wp2_with (refine YI rfl 157 _ rfl w.heap.size 0 ?_ [jZ r] d ?_ ?_ ?_ ?_ ?_;kernel_rfl;(rw[c.out];exact s.2.2.2);exact D.1;exact D.2;exact i124;rw[c.out])
 refine H.mono ?_;rintro e Q ⟨v,rfl,I,E,rfl⟩;have o:=Holds.lt E oM;have a:=mk3 (s.1.only I oM) ((SP.Only.of_below s.2.1 rfl t).trans I) E;go_wp2_with fail
 refine(F Q).mono ?_;rintro e J ⟨R,rfl,f,rfl⟩;have p:=mk3 (a.1.below f) (a.2.1.trans (SP.Only.of_below f rfl o)) (Holds.below a.2.2 f o);obtain⟨y,i⟩:=hE (J.setCells (w.heap.size+1) 0 (wn q));have u:Hid (Row y (w.heap.size+1) (wn q)/\SP.Only r 0 32 w y/\hZ y r 0 P):=by rw[<-i.out];exact⟨p.1.put rfl,dT p.2.1 t oM,eN p.2.2 oM⟩
 obtain⟨S,g⟩:=hE (nv q);rw[g.out];go_wp2_with (refine Yk rfl 44 _ _ rfl (w.heap.size+1) 0 (wn q).toArray ?_ ?_ ?_ ?_ ?_ ?_;rfl;exact g.symm;exact p.1.2.2;exact i40;exact aI;rw[show(wn q).toArray.toList=wn q from rfl,i.out])
 refine XN (aF 2 rfl u.1 rfl u40 i40) rfl ?_;exact⟨_,rfl,u.2.1,u.2.2,rfl⟩
structure CaI(w W:XA)(k r:Nat)(X Y L:Bs):Prop where
 on:SP.Only r 0 32 w W
 r0:Row W k [jZ r]
 r1:Row W (k+1) (aA X)
 r2:Row W (k+2) (aA Y)
 r3:Row W (k+3) [uZ 0,uZ 0,uZ 0,uZ 0]
 lg:hZ W r 0 L
def CaI.grow{w W W':XA}{k r:Nat}{X Y L:Bs}(h:CaI w W k r X Y L)(d:L.size=32)(b:kZ W W'):CaI w W' k r X Y L:=
 have c:=Holds.lt h.lg oM
 ⟨h.on.trans (SP.Only.of_below b rfl c),h.r0.below b,h.r1.below b,h.r2.below b,h.r3.below b,Holds.below h.lg b c⟩
def CaI.say{w W W':XA}{k r:Nat}{X Y L c:Bs}(h:CaI w W k r X Y L)(e:r<k)(b:SP.Only r 0 32 W W')(d:hZ W' r 0 c):CaI w W' k r X Y c:=
 ⟨h.on.trans b,h.r0.only b oM,h.r1.only b oM,h.r2.only b oM,h.r3.only b oM,d⟩
def uC(O:Ord N)(r:Nat)(L X Y:Bs)(n s:ByteArray)(h1:n.size<=1048576)(h2:s.size<=1048576)(hX:X.size=33)(hY:Y.size=33)(w:XA)(hL:hZ w r 0 L)(hl:L.size=32):
 cZ 135 #[lgV r,.string n,pvl X,.string s,pvl Y] w (Ret λe w'=>SP.Only r 0 32 w w'/\hZ w' r 0 (aW (kE n.data.toList s.data.toList L X Y))/\e=nv (chS N (kE n.data.toList s.data.toList L X Y))):=by
 have hr:=Holds.lt hL oM;obtain⟨F,G⟩:=yH (vQ L n.data.toList X.toList);have s1:F.size=32:=by rw[<-G.out];exact lC
 obtain⟨a,C⟩:=yH (vQ F s.data.toList Y.toList);have s2:a.size=32:=by rw[<-C.out];exact lC
 have e2:kE n.data.toList s.data.toList L X Y=a:=by unfold kE;rw[G.out,C.out]
 rw[e2];obtain⟨k,I⟩:=yH w.heap.size;obtain⟨b,p⟩:=yH (w.alloc (.cells #[jZ r] 159));obtain⟨c,o⟩:=yH (b.alloc (.cells (aA X).toArray 51));obtain⟨f,g⟩:=yH (c.alloc (.cells (aA Y).toArray 51));obtain⟨H,B⟩:=yH (f.alloc (.cells #[uZ 0,uZ 0,uZ 0,uZ 0] 44));have z1:b.heap.size=k+1:=by rw[<-p.out,XP,I.out]
 have z2:c.heap.size=k+2:=by rw[<-o.out,XP,z1]
 have z3:f.heap.size=k+3:=by rw[<-g.out,XP,z2]
 have E:r<k:=by rw[<-I.out];exact hr
 have HK:Hid (w.heap.size<=k):=by show _<=_;rw[I.out];exact XD _
 have K4:Hid (CaI w H k r X Y L):=by
  have b1:kZ w b:=by rw[<-p.out];exact aD _
  have i:kZ b c:=by rw[<-o.out];exact aD _
  have j:kZ c f:=by rw[<-g.out];exact aD _
  have l:kZ f H:=by rw[<-B.out];exact aD _
  have z:Row b k [jZ r]:=by rw[<-p.out,<-I.out];exact row_new w _ _
  have t:Row c (k+1) (aA X):=by rw[<-o.out,<-z1];exact row_new b _ _
  have A:Row f (k+2) (aA Y):=by rw[<-g.out,<-z2];exact row_new c _ _
  have y:Row H (k+3) [uZ 0,uZ 0,uZ 0,uZ 0]:=by rw[<-B.out,<-z3];exact row_new f _ _
  have bb:kZ w H:=((b1.trans (i.mono b1.size)).trans (j.mono (XH b1.size i.size))).trans (l.mono (XH b1.size (XH i.size j.size)));exact⟨SP.Only.of_below bb rfl hr,((z.below i).below j).below l,(t.below j).below l,A.below l,y,Holds.below hL bb hr⟩
 obtain⟨vl,T⟩:=yH (lgV r);obtain⟨vX,K⟩:=yH (pvl X);obtain⟨vY,Q⟩:=yH (pvl Y);have B1:Hid ((Ys 159 vl).run prog w=.ok (jZ k) b):=by rw[<-T.out,<-p.out,<-I.out];exact O1 (r:=r) (w:=w)
 have B2:Hid ((Ys 51 vX).run prog b=.ok (jZ (k+1)) c):=by rw[<-K.out,<-o.out,<-z1];exact sL hX b
 have B3:Hid ((Ys 51 vY).run prog c=.ok (jZ (k+2)) f):=by rw[<-Q.out,<-g.out,<-z2];exact sL hY c
 have HZ:Hid (f.heap.size=k+3):=z3;rw[T.out,K.out,Q.out];have J:Hid (Ord N/\n.size<=1048576/\s.size<=1048576/\X.size=33/\Y.size=33):=⟨O,h1,h2,hX,hY⟩
 clear hL z1 z2 z3 p o g I e2 O h1 h2 hX hY;go_enter func135,ntmps135;go_wp2_with (first|(refine aG (u:=vl) (v:=jZ k) (w':=b) rfl 159 (.tmp 0) rfl ?_ ?_ ?_;rfl;exact B1.out)|(refine aG (u:=vX) (v:=jZ (k+1)) (w':=c) rfl 51 (.tmp 2) rfl ?_ ?_ ?_;rfl;exact B2.out)|(refine aG (u:=vY) (v:=jZ (k+2)) (w':=f) rfl 51 (.tmp 4) rfl ?_ ?_ ?_;rfl;exact B3.out)|(refine fJ (v:=jZ (k+3)) (w':=H) rfl 44 10 rfl rfl ?_ ?_;(rw[<-B.out,<-HZ.out];kernel_rfl))|fail)
 refine(gwL [pE (jZ k),pE (jZ k),pE (jZ r),pE (.string n),pE (sZ (k+1) 33 33)] (λW=>CaI w W k r X Y L) (λW W' hb h=>h.grow hl hb)).tail2 5 kR kR kR ⟨
  gO 5 (jZ k),
  Lh 0 11 (jZ k) (jZ k) (λx W h=>h) (λ_=>rfl),
  fW (T:=155) 1 12 k 0 (jZ r) uLp (λx W h=>h) (λW z=>z.r0.2.1 0 _ rfl) (λ_=>rfl),
  gO 1 (.string n),
  gP 7 (jZ (k+1)) (sZ (k+1) 33 33),yEZ⟩ (K4.grow hl ⟨rfl,rfl,rfl,XD _,λ_ _=>rfl⟩) ?_
 intro V w5 hR z;have i:V 2=jZ r:=hR 2 dC;have l:V 3=.string n:=hR 3 dC;have j:V 4=sZ (k+1) 33 33:=hR 4 dC;dsimp only[bW,YT,yAb,yAd];simp only[Ym,XF,XJ,XL];rw[i,l,j];have y:=Hid.mk' z;clear hR z i l j K4;generalize V 0=s0;generalize V 1=h4;go_wp2_with fail
 refine(B8 r L n (some ⟨k+1,0,none⟩) 33 33 X.toList w5 J.2.1 (QQ y.lg) hl (xP J.2.2.2.1 y.r1)).mono ?_;rintro e w6 ⟨rfl,A,t⟩;rw[G.out]at t;have K6:Hid (CaI w w6 k r X Y F):=y.say E A (QP t);clear A t y;go_wp2_with fail
 refine(gwL [pE (jZ k),pE (jZ k),pE (jZ r),pE (.string s),pE (sZ (k+2) 33 33)] (λW=>CaI w W k r X Y F) (λW W' hb h=>h.grow s1 hb)).tail2 5 kR kR kR ⟨
  gO 5 (jZ k),
  Lh 0 17 (jZ k) (jZ k) (λx W h=>h) (λ_=>rfl),
  fW (T:=155) 1 18 k 0 (jZ r) uLp (λx W h=>h) (λW z=>z.r0.2.1 0 _ rfl) (λ_=>rfl),
  gO 3 (.string s),
  gP 9 (jZ (k+2)) (sZ (k+2) 33 33),yEZ⟩ (K6.grow s1 ⟨rfl,rfl,rfl,XD _,λ_ _=>rfl⟩) ?_
 intro V w7 hR z;have i:V 2=jZ r:=hR 2 dC;have l:V 3=.string s:=hR 3 dC;have j:V 4=sZ (k+2) 33 33:=hR 4 dC;dsimp only[bW,YT,yAb,yAd];simp only[Ym,XF,XJ,XL];rw[i,l,j];have y:=Hid.mk' z;clear hR z i l j K6;generalize V 0=h3;generalize V 1=s3;go_wp2_with fail
 refine(B8 r F s (some ⟨k+2,0,none⟩) 33 33 Y.toList w7 J.2.2.1 (QQ y.lg) s1 (xP J.2.2.2.2 y.r2)).mono ?_;rintro e w8 ⟨rfl,A,t⟩;rw[C.out]at t;have Z:Hid (CaI w w8 k r X Y a):=y.say E A (QP t);clear A t y;have HS:=Hid.mk' (zG J.1 r a w8 Z.lg s2);have h0:(aW a).size=32:=aY;obtain⟨q,hq⟩:=yH (chS N a);obtain⟨L3,D⟩:=yH (aW a);rw[hq.out,D.out]at HS;rw[D.out]at h0;obtain⟨d,P,R⟩:=XE.1 uLg;have HD:Hid (prog.underlying 159=some d/\d.isRow=true):=⟨P,R⟩
 clear P R;go_wp2_with (first|(refine YI rfl 159 (.tmp 5) rfl k 0 ?_ [jZ r] d ?_ ?_ ?_ ?_ ?_;rfl;exact Z.r0.2.1;exact HD.1;exact HD.2;exact iLg;skip)|fail)
 refine HS.mono ?_;rintro e w9 ⟨v,rfl,A,t,rfl⟩;have K9:Hid (CaI w w9 k r X Y L3):=Z.say E A t;clear A t Z HS;obtain⟨M,S⟩:=yH (w9.setCells (k+3) 0 (wn q));have KA:Hid (Row M (k+3) (wn q)/\SP.Only r 0 32 w M/\hZ M r 0 L3):=by
  have U:=HZ.out;rw[<-S.out];exact⟨K9.r3.put rfl,dT K9.on hr (oN HK.out),eN K9.lg oM⟩
 obtain⟨vm,U⟩:=yH (nv q);rw[U.out];go_wp2_with (refine Yk rfl 44 _ _ rfl (k+3) 0 (wn q).toArray ?_ ?_ ?_ ?_ ?_ ?_;rfl;exact U.symm;exact K9.r3.2.2;exact nSc;exact aI (n:=q);rw[show(wn q).toArray.toList=wn q from rfl,S.out])
 refine XN (aF 10 (T:=44) rfl KA.1 rfl rSc nSc) rfl ?_;exact⟨_,rfl,KA.2.1,by rw[D.out];exact KA.2.2,by rw[hq.out];rfl⟩
def Fy:prog.underlying 27=some (.slice 23):=kR
def Sk:(prog.info? 23).map (λi=>(i.size,i.bytes,i.zero.map λz=>z.cells.size))=some (1,24,some 1):=kR
def gI(g o j:Nat):(⟨g,o,none⟩:Y0).add j=⟨g,o+j,none⟩:=by
 unfold yBT;by_cases k:j=0
 .subst k;rw[yEX rfl];rfl
 .rw[yEY k]
structure VL(w:XA)(q:Option Y0)(m:Nat)(ys:List XB):Prop where
 len:ys.length=m
 nil:q=none->m=0
 cells:ys=[]\/∃b o,q=some ⟨b,o,none⟩/\b<w.heap.size/\∀(j:Nat) u,ys[j]? = some u->w.cell? ⟨b,o+j,none⟩=some u
 one:∀u∈ys,u.oneCell'=true
def VL.below{w w':XA}{q:Option Y0}{m:Nat}{ys:List XB}(h:VL w q m ys)(k:Below w.heap.size w w'):VL w' q m ys:=
 ⟨h.len,h.nil,by
  rcases h.cells with g|⟨b,o,e,c,d⟩
  .exact Ye g
  .exact X7 ⟨b,o,e,XC c k.size,λj u f=>by rw[k.cell (p:=⟨b,o+j,none⟩) c];exact d j u f⟩,h.one⟩
section
def Hid.mkP{p:Prop}(h:p):Hid p:=h
section
variable {P:YJ}{ops:Array Yp}{rest:List Yp}{op:Yp}{a:Act}{w w':XA}{v:XB}{Q:yAM->Act->XA->Prop}
def fC(k:op.guard=none)(X:Op)(_:op.op=X)(c:(Yh a.eval op).run P w=.ok (.value v) w')(h:wpList P ops Q rest (a.put op.dst v) w'):wpList P ops Q (op :: rest) a w:=
 ZL k λK b=>by
  unfold Y3;rw[c];exact b _ _ h
end
def bG(w:XA)(o:Obj):Below w.heap.size w (w.alloc o):=(XR _ _).alloc (XD _) _
def fG{w:XA}{cs:Array XB}{T:Yd}{j:Nat}{v:XB}(h:cs[j]? = some v):(w.alloc (.cells cs T)).cell? ⟨w.heap.size,j,none⟩=some v:=by
 unfold World.alloc YZ;simp[h]
end
structure Sv where
 q:Option Y0
 n:Nat
 c:Nat
def Sv.v(s:Sv):XB:=.slice s.q s.n s.c
def rgC(a b c d e f g l r x y:Sv):List XB:=[a.v,b.v,c.v,d.v,e.v,f.v,g.v,l.v,r.v,x.v,y.v]
def uRg:yZ 66:=yQ
def iRg:gZ 66 11:=gQ
def UN{g n c i:Nat}{w:XA}(k:i<n):(Yv 27 (sZ g n c) (iZ i)).run prog w=.ok (oZ g i) w:=by
 go_simp
def Pt(W:XA)(u:XB)(b:SP.Bs):Prop:=∃q c,u=.slice q (Array.size b) c/\(b.size=0\/∃g o,q=some ⟨g,o,none⟩/\g<W.heap.size/\Holds SP.encB W g o b)
def Pt.below{W W':XA}{u:XB}{b:SP.Bs}(h:Pt W u b)(e:Below W.heap.size W W'):Pt W' u b:=by
 obtain⟨q,c,d,j|⟨g,o,i,k,f⟩⟩:=h
 .exact⟨q,c,d,Ye j⟩
 .exact⟨q,c,d,X7 ⟨g,o,i,XC k e.size,SP.Holds.below f e k⟩⟩
def oJ{w:XA}{cs:List XB}{T:Yd}:(w.alloc (.cells cs.toArray T)).rangeAt w.heap.size 0 cs:=λj u k=>by rw[XI];exact fG (by simpa using k)
def range_below{w w':XA}{b o:Nat}{cs:List XB}(h:w.rangeAt b o cs)(d:Below w.heap.size w w')(k:b<w.heap.size):w'.rangeAt b o cs:=λj u c=>by rw[d.cell (p:=⟨b,o+j,none⟩) k];exact h j u c
structure Rg where
 a:Sv
 b:Sv
 c:Sv
 d:Sv
 e:Sv
 f:Sv
 g:Sv
 l:Sv
 r:Sv
 x:Sv
 y:Sv
def Rg.cs(p:Rg):List XB:=rgC p.a p.b p.c p.d p.e p.f p.g p.l p.r p.x p.y
def uV{n c:Nat}(h:c<n):yA5 n c<=2*n+768:=by
 unfold yA5;split
 .omega
 .split
  .omega
  .simp only[Builtin.growBy];repeat' split
   all_goals omega
def yA{t n m size c:Nat}{T e:Yd}{i:TypeInfo}{z:XB}{W W':XA}{v w:XB}{xs k:List XB}{a:Y0}(F:prog.underlying T=some (.slice e))(C:prog.info? e=some i)(K:i.zero=some z)(H:i.size=size)(D:i.bytes<=1000)
 (d:W.ownsRow t e size v n xs) (s:Src prog size T (.slice (some a) m c) m k W) (b:n+m<=1000000000)
 (p:(YG #[T,T] T #[v,.slice (some a) m c]).run prog W=.ok w W'):w.ownBlock=v.ownBlock\/w.ownBlock=some W.heap.size:=by
 subst H;have f:∀(q:Option Y0) (cap:Nat) (olds:List XB),v=.slice q n cap->cap<n+m->(yC1 i.size n (.slice q n cap)).run prog W.drew=.ok olds.toArray W.drew->w.ownBlock=v.ownBlock\/w.ownBlock=some W.heap.size:=λq cap olds hv J y=>by
  have E:=uV J;have A:yA5 (n+m) cap*i.bytes<=(2*(n+m)+768)*1000:=ZD E D;have r:=run_append_grow_src (P:=prog) W T T T e i z F C K q n cap olds y (.slice (some a) m c) m k s J oM (XH A (by clear E A;omega));rw[hv,r]at p;injection p with hr1 o
  right;rw[<-hr1];rfl
 rcases id d with⟨-,⟨rfl,rfl⟩|⟨g,cap,cur,rfl,R,I,Q,N,L,O⟩⟩
 .by_cases M:m=0
  .subst M;have G:=p;obtain⟨b,o⟩:∃b,(YG #[T,T] T #[nZ,.slice (some a) 0 c]).run prog W=.ok nZ b:=by
    rcases s.kind with⟨e',B⟩|B<;>exact⟨_,by simp[YG,yAZ F,yAZ B,sizeOf,typeInfo,C,s.len,s.cells];rfl⟩
   rw[o]at p;injection p with hr1 o
   left;rw[<-hr1]
  .exact f none 0 [] rfl oM (run_firstCells_none W.drew i.size 0 0 0)
 .by_cases b:n+m<=cap
  .have r:=yCj (P:=prog) W T T T e i F C g 0 n cap (.slice (some a) m c) m k s b
    (λj B=>by
     have G:n*i.size+j<cur.size:=by
      rw[L];have E:j<m*i.size:=by rw[<-s.newsLen];exact B
      have A:(n+m)*i.size<=cap*i.size:=yAn _ b;rw[yAs]at A;omega
     simp[YZ,I,XI,X8 G])
    (λj B=>by simp[Zk,I])
   rw[r]at p;injection p with hr1 o
   left;rw[<-hr1];rfl
  .refine f (some (aZ g)) cap xs rfl oM ?_;exact run_firstCells_some W.drew i.size n (aZ g) n cap xs d.1 (λj u B=>by rw[yBD];exact d.cells (g:=g) rfl j u B)
def Hz{t b:Yd}{vs d c:XB}{P:YJ}{k:Array Yp}{o:Yp}{a:Act}{w' w:XA}{K:Act->XA->Prop}{Q:yAM->Act->XA->Prop}{E:Prop}(i:o.guard=none)(s x:yAe)(ho:o.op=.call { callee:=.builtin .append,args:=#[s,x],argTypes:=#[t,b] })(e:a.eval s=vs)(hx:a.eval x=d)(g:(YG #[t,b] o.type #[vs,d]).run P w=.ok c w')(h:K (a.put o.dst c) w'):if Zc o (yielded k a.tmps)=true then Y3 P o a w K Q else E:=by
 have f:Zc o (yielded k a.tmps)=true:=by simp[Zc,i]
 rw[yEX f];exact Lib.wp_append_run w s x t b ho vs d e hx c w' g h
def Je:prog.underlying 96=some (.slice 101):=kR
def Sj:(prog.info? 101).map (λi=>(i.size,i.bytes,i.zero.map λz=>z.cells.size))=some (2,16,some 2):=kR
def pC(x:Y0 × Nat):List XB:=[.pointer (some x.1),iZ (x.2:Int)]
def psC(k:List (Y0 × Nat)):List XB:=k.flatMap pC
def oW:∀k:List (Y0 × Nat),(psC k).length=k.length*2
 | []=>rfl
 | x :: r=>by
  have:=oW r;unfold psC at *;rw[List.flatMap_cons,XK,this,List.length_cons];show 2+_=_;omega
def NW(a b:List (Y0 × Nat)):psC (a++b)=psC a++psC b:=List.flatMap_append
def FV:∀(k:List (Y0 × Nat)),∀u∈psC k,u.oneCell'=true:=by
 intro k u b;obtain⟨x,-,hx⟩:=List.mem_flatMap.1 b;unfold pC at hx;simp only[List.mem_cons,Yf,or_false]at hx;rcases hx with rfl|rfl<;>rfl
def JZ:∀(k:List (Y0 × Nat)) (j:Nat) (x:Y0 × Nat),k[j]? = some x->(psC k)[2*j]? = some (.pointer (some x.1))/\(psC k)[2*j+1]? = some (iZ (x.2:Int))
 | [],j,x,h=>by simp at h
 | y :: r,0,x,h=>by
  obtain rfl:y=x:=by simpa using h
  exact⟨rfl,rfl⟩
 | y :: r,j+1,x,h=>by
  have:=JZ r j x (by simpa using h);have e:psC (y :: r)=pC y++psC r:=rfl;rw[e,XW (by show 2<=_;omega),XW (by show 2<=_;omega)];show(psC r)[2*(j+1)-2]? = _/\(psC r)[2*(j+1)+1-2]? = _;rw[show 2*(j+1)-2=2*j by omega,show 2*(j+1)+1-2=2*j+1 by omega];exact this
structure PLs(w W:XA)(v:XB)(ps:List (Y0 × Nat)):Prop where
 bl:Below w.heap.size w W
 ow:W.ownsRow w.heap.size 101 2 v ps.length (psC ps)
 nn:v.ownBlock≠none
def PLs.lt{w W:XA}{v:XB}{b:List (Y0 × Nat)}(h:PLs w W v b):∃g cap,v=sZ g b.length cap/\w.heap.size<=g/\g<W.heap.size:=by
 rcases id h.ow with⟨-,⟨rfl,e⟩|⟨g,cap,cur,rfl,d,k,-⟩⟩
 .exact absurd rfl h.nn
 .refine⟨g,cap,rfl,d,?_⟩;by_cases c:g<W.heap.size
  .exact c
  .rw[Z0 oM]at k;cases k
def PLs.below{w W W':XA}{v:XB}{e:List (Y0 × Nat)}(h:PLs w W v e)(c:Below W.heap.size W W'):PLs w W' v e:=by
 refine⟨h.bl.trans (c.mono h.bl.size),?_,h.nn⟩;rcases h.ow with⟨d,b|⟨g,cap,cur,b,j,k,f⟩⟩
 .exact⟨d,Ye b⟩
 .refine⟨d,X7 ⟨g,cap,cur,b,j,?_,f⟩⟩;rw[c.block g (by
   by_cases i:g<W.heap.size
   .exact i
   .rw[Z0 oM]at k;cases k)]
  exact k
def PLs.app{w W:XA}{v:XB}{f ys:List (Y0 × Nat)}{b m c:Nat}(h:PLs w W v f)(hx:W.rangeAt b 0 (psC ys))(n:ys.length=m)(K:f.length+m<=1000000)(C:0<m):
 ∃d W',(YG #[96,96] 96 #[v,sZ b m c]).run prog W=.ok d W'/\PLs w W' d (f++ys)/\W.grownBy W' v.ownBlock/\(d.ownBlock=v.ownBlock\/d.ownBlock=some W.heap.size):=by
 obtain⟨i,q,o⟩:=XE.1 Sj;simp only[Ze.injEq]at o;obtain⟨x,E,H⟩:=o;obtain⟨z,p,l⟩:=XE.1 H;obtain⟨g,cap,rfl,D,F⟩:=h.lt;have y:∀(j:Nat) u,(psC ys)[j]? = some u->W.cell? ((⟨b,0,none⟩:Y0).add j)=some u:=λj u I=>by rw[gI];exact hx j u I
 obtain⟨d,W',a,r,e,A⟩:=yBm (P:=prog) W w.heap.size 96 96 101 i z 2 16 Je q p x E l dC _ f.length (psC f) h.ow (aZ b) m c (psC ys) (by rw[oW,n]) y (FV ys) (by unfold maxLen;omega) oM h.bl.size;have B:=yA (c:=c) Je q p x oM h.ow (yDp (P:=prog) (size:=2) W Je (aZ b) m c (psC ys) (by rw[oW,n]) y (FV ys)) oM a;refine⟨d,W',a,⟨⟨by rw[e.os,h.bl.os],by rw[e.tape,h.bl.tape],by rw[e.output,h.bl.output],XH h.bl.size e.size,λk t=>?_⟩,?_,?_⟩,e,B⟩
 .rw[e.block k (XC t h.bl.size) (by simp[Zh];omega)];exact h.bl.block k t
 .rw[XK,n,NW];exact r
 .rcases r.2 with⟨G,-⟩|⟨J,s,cur,rfl,-⟩
  .have:=(A.1 G).1;exact absurd this (by simp)
  .simp[Zh]
def PLs.at{w W:XA}{g n c:Nat}{b:List (Y0 × Nat)}(h:PLs w W (sZ g n c) b)(j:Nat)(x:Y0 × Nat)(f:b[j]? = some x):W.rangeAt g (2*j) (pC x):=λk u e=>by
 have d:=JZ b j x f;have:=h.ow.cells (g:=g) rfl (2*j+k) u (by
  match k,e with
  | 0,h=>rw[<-h];exact d.1
  | 1,h=>rw[<-h];exact d.2)
 rw[gI,XI]at this;exact this
def N8{w:XA}{k:List (Y0 × Nat)}(b:k.length<=1000000):PLs w (w.alloc (.cells (psC k).toArray 101)) (sZ w.heap.size k.length k.length) k:=
 ⟨bG w _,⟨oW k,.inr ⟨w.heap.size,k.length,(psC k).toArray,rfl,XD _,Array.getElem?_push_size,XD _,by unfold maxLen;omega,by rw[YF,oW],by rw[<-oW k];simp⟩⟩,by simp[Zh]⟩
def lp(b o n:Nat):List (Y0 × Nat):=(YA n).map λj=>((⟨b,o+j,none⟩:Y0),33)
def uF(k:Nat):List (Y0 × Nat):=[(⟨k,0,none⟩,33),(⟨k,1,none⟩,33),(⟨k,2,none⟩,33),(⟨k,3,none⟩,33),(⟨k,4,none⟩,32),(⟨k,5,none⟩,32),(⟨k,6,none⟩,32)]
def endP(k:Nat):List (Y0 × Nat):=[(⟨k,9,none⟩,32),(⟨k,10,none⟩,32)]
def Ot(b o n:Nat):lp b o (n+1)=lp b o n++[(⟨b,o+n,none⟩,33)]:=by
 unfold lp;rw[List.range_succ,Y1];rfl
def jT(b o n:Nat):(lp b o n).length=n:=by unfold lp;simp
def uB(k c d b f or e:Nat):Nat->List (Y0 × Nat)
 | 0=>uF k
 | 1=>uF k++lp c d b
 | _=>uF k++lp c d b++lp f or e
structure PI(w w1 w2 W:XA)(v:XB)(ps:List (Y0 × Nat)):Prop where
 pl:PLs w W v ps
 ne:v.ownBlock≠some w1.heap.size
 eq:W.heap[w1.heap.size]? = w2.heap[w1.heap.size]?
 sz:w2.heap.size<=W.heap.size
def PI.app{w k f W:XA}{v:XB}{d:List (Y0 × Nat)}{x:Y0 × Nat}(h:PI w k f W v d)(p:k.heap.size<f.heap.size)(t:d.length<=10000):
 ∃b W',(YG #[96,96] 96 #[v,sZ W.heap.size 1 1]).run prog (W.alloc (.cells (pC x).toArray 101))=.ok b W'/\PI w k f W' b (d++[x]):=by
 have g:=bG W (.cells (pC x).toArray 101);have n:(W.alloc (.cells (pC x).toArray 101)).rangeAt W.heap.size 0 (psC [x]):=by
  have e:psC [x]=pC x:=yAk _;rw[e];exact oJ
 obtain⟨b,W',q,o,i,j⟩:=(h.pl.below g).app (m:=1) (c:=1) n rfl oM dC;have s:=h.sz;have l:(W.alloc (.cells (pC x).toArray 101)).heap.size=W.heap.size+1:=XP _ _;refine⟨b,W',q,o,?_,?_,?_⟩
 .rcases j with e|e
  .rw[e];exact h.ne
  .rw[e,l];intro h;have:=XX.inj h;omega
 .rw[i.block k.heap.size oM (λr=>h.ne r.symm),g.block k.heap.size oM];exact h.eq
 .have:=i.size;omega
def WP{n i:Nat}(b o c:Nat)(f:i<n)(w:XA):(Yv 27 (qZ b o n c) (iZ i)).run prog w=.ok (oZ b (o+i)) w:=by
 have d:¬(i:Int)<0:=oM;have e:(i:Int)<(n:Int):=oM;have k:=gI b o i;go_simp
def Ay(d:Nat)(l r:Sv)(y t z or:Nat)(w:XA)(I:d<w.heap.size)(h7:w.cell? ⟨d,7,none⟩=some l.v)(h8:w.cell? ⟨d,8,none⟩=some r.v)
 (J:l.n=0\/l.q=some ⟨y,t,none⟩) (L:r.n=0\/r.q=some ⟨z,or,none⟩) (D:l.n<=1000) (C:r.n<=1000) :
 YN prog 44 #[.pointer (some ⟨d,0,none⟩)] w λe w'=>∃v,e=.returned v/\PLs w w' v (uF d++lp y t l.n++lp z or r.n++endP d):=by
 obtain⟨R,s,cl⟩:=l;obtain⟨P,u,cr⟩:=r;dsimp only[Sv.v]at *;obtain⟨f,F⟩:=yH ((w.alloc (.cells #[.pointer (some ⟨d,0,none⟩),.int .i64 33,.pointer (some ⟨d,1,none⟩),.int .i64 33,.pointer (some ⟨d,2,none⟩),.int .i64 33,.pointer (some ⟨d,3,none⟩),.int .i64 33,.pointer (some ⟨d,4,none⟩),.int .i64 32,.pointer (some ⟨d,5,none⟩),.int .i64 32,.pointer (some ⟨d,6,none⟩),.int .i64 32] 101)).drew);obtain⟨a,A⟩:=yH ((f.alloc (.cells #[.slice R s cl,.slice P u cr] 27)).drew);have E:∀W:XA,Below W.heap.size W W.drew:=λW=>⟨rfl,rfl,rfl,XD _,λ_ _=>rfl⟩
 have p1:PLs w f (.slice (some ⟨w.heap.size,0,none⟩) 7 7) (uF d):=by
  rw[<-F.out];exact(N8 (w:=w) (k:=(uF d)) (by show 7<=_;omega)).below (E _)
 have b2:Below f.heap.size f a:=by
  rw[<-A.out];exact(bG f _).trans ((E _).mono (by rw[XP];omega))
 have p2:=p1.below b2;have c7:f.cell? ⟨d,7,none⟩=some (.slice R s cl):=by rw[p1.bl.cell (p:=⟨d,7,none⟩) I];exact h7
 have c8:f.cell? ⟨d,8,none⟩=some (.slice P u cr):=by rw[p1.bl.cell (p:=⟨d,8,none⟩) I];exact h8
 have d0:a.cell? ⟨f.heap.size,0,none⟩=some (.slice R s cl):=by rw[<-A.out,yBD];exact fG (w:=f) (j:=0) rfl
 have d1:a.cell? ⟨f.heap.size,1,none⟩=some (.slice P u cr):=by rw[<-A.out,yBD];exact fG (w:=f) (j:=1) rfl
 have s2:f.heap.size<a.heap.size:=by rw[<-A.out,yDT,XP];omega
 have U:Hid (PI w f a a (.slice (some ⟨w.heap.size,0,none⟩) 7 7) (uB d y t s z or u 0)):=⟨p2,by
  have:f.heap.size=w.heap.size+1:=by rw[<-F.out,yDT,XP]
  simp[Zh];omega,rfl,XD _⟩
 have HN:Hid (∀(i:Nat) (W:XA),i<2->W.heap[f.heap.size]? = a.heap[f.heap.size]?->∃q n c b o,W.cell? ⟨f.heap.size,i,none⟩=some (.slice q n c)/\(n=0\/q=some ⟨b,o,none⟩)/\n<=1000/\uB d y t s z or u (i+1)=uB d y t s z or u i++lp b o n/\(uB d y t s z or u i).length<=1007):=λi W Q hW=>by
  have B:∀k,W.cell? ⟨f.heap.size,k,none⟩=a.cell? ⟨f.heap.size,k,none⟩:=λk=>by
   unfold YZ;rw[hW]
  match i,Q with
  | 0,_=>exact⟨R,s,cl,y,t,by rw[B];exact d0,J,D,rfl,by show 7<=_;omega⟩
  | 1,_=>exact⟨P,u,cr,z,or,by rw[B];exact d1,L,C,rfl,by show(uF d++lp y t s).length<=_;rw[XK,jT];show 7+s<=_;omega⟩
 have V:=Hid.mkP s2;clear p1 p2 b2 h7 h8 d0 d1 s2 E J L;go_enter func44,ntmps44;go_wp2;go_region
 rw[F.out];go_wp2;go_region
 rw[A.out];go_wp2;go_loopg [4,50] 2 (λgk s4 s50 wr=>∃i:Nat,i+gk=2/\s50=.int .i64 i/\Hid (PI w f a wr s4 (uB d y t s z or u i)))
 case atStart=>exact⟨0,rfl,rfl,U⟩
 case round =>
  obtain⟨i,Q,rfl,K⟩:=hrel;by_cases h2:i<2
  .obtain⟨q,n,c,b,o,e1,G,e3,Y,e5⟩:=HN.out i wr h2 K.eq;have X:(i:Int)<2:=oM;have Z:∀W:XA,(Yv 177 (.slice (some ⟨f.heap.size,0,none⟩) 2 2) (.int .i64 i)).run prog W=.ok (.pointer (some ⟨f.heap.size,i,none⟩)) W:=λW=>by
    have C:¬(i:Int)<0:=oM;have B:=gI f.heap.size 0 i;rw[XI]at B;go_simp
   have E2:=Hid.mkP G;have E4:=Hid.mkP Y;have E5:=Hid.mkP e5;clear G Y e5;obtain⟨g,cap,rfl,-,-⟩:=K.pl.lt;have S:Hid (i+gk=2):=Q;clear Q;go_wp2;go_loopg [4,56] n (λm s4 s56 wi=>∃j:Nat,j+m=n/\s56=.int .i64 j/\Hid (PI w f a wi s4 (uB d y t s z or u i++lp b o j)))
   case atStart=>exact⟨0,oM,rfl,by
    have e:lp b o 0=[]:=rfl;rw[e,yAk];exact K⟩
   case round =>
    clear K;obtain⟨j,hj,rfl,K⟩:=hrel;obtain⟨g,cap,rfl,-,-⟩:=K.pl.lt;have J:(uB d y t s z or u i++lp b o j).length<=10000:=by
     have:=E5.out;rw[XK,jT];omega
    by_cases T:j<n
    .have H:(j:Int)<(n:Int):=oM;obtain rfl:q=some ⟨b,o,none⟩:=by
      rcases E2.out with h|h
      .omega
      .exact h
     have h0:=WP b o (n:=n) c (i:=j) T;obtain⟨O,C⟩:=yH (wr.alloc (.cells (pC (⟨b,o+j,none⟩,33)).toArray 101));obtain⟨v',W',D,B⟩:=K.app (x:=(⟨b,o+j,none⟩,33)) V.out J;rw[C.out]at D;obtain⟨g',M,rfl,-,-⟩:=B.pl.lt;generalize (uB d y t s z or u i++lp b o j++[((⟨b,o+j,none⟩:Y0),33)]).length=N2 at D B;rw[List.append_assoc,<-Ot]at B;have N:=Hid.mkP B;have R1:=Hid.mkP D;generalize (uB d y t s z or u i++lp b o j).length=N1 at R1⊢;clear K D B J;go_wp2_with (first|(refine fC (v:=.slice (some ⟨wr.heap.size,0,none⟩) 1 1) (w':=O) rfl (.buildSlice 96 1 #[(0,.tmp 63)]) rfl ?_ ?_;(rw[<-C.out];kernel_rfl))|(at_builtin;refine Lib.wpList_append_run O rfl _ _ _ _ rfl _ _ rfl rfl _ _ R1.out ?_)|fail)
     go_roundg (gk-1)
     case measure=>omega
     case rel=>exact⟨j+1,oM,rfl,N⟩
    .have H:¬(j:Int)<(n:Int):=oM;obtain rfl:j=n:=oM;rw[<-E4.out]at K⊢;go_wp2;go_roundg (1-i)
     case measure =>
      have:=S.out;omega
     case rel=>exact⟨i+1,oM,rfl,K⟩
  .have X:¬(i:Int)<2:=oM;obtain rfl:i=2:=oM;obtain⟨g,cap,rfl,-,-⟩:=K.pl.lt;have H:(uB d y t s z or u 2).length<=2007:=by
    show(uF d++lp y t s++lp z or u).length<=_;rw[XK,XK,jT,jT];show 7+_+_<=_;omega
   have O:=(bG wr (.cells (psC (endP d)).toArray 101)).trans (⟨rfl,rfl,rfl,XD _,λ_ _=>rfl⟩:Below wr.heap.size (wr.alloc (.cells (psC (endP d)).toArray 101)) (wr.alloc (.cells (psC (endP d)).toArray 101)).drew);have L:(wr.alloc (.cells (psC (endP d)).toArray 101)).drew.rangeAt wr.heap.size 0 (psC (endP d)):=by
    rw[World.rangeAt_drew];exact oJ (w:=wr)
   obtain⟨v',W',D,B,-,-⟩:=(K.pl.below O).app (m:=2) (c:=2) L rfl oM dC;have C:Hid ((YG #[96,96] 96 #[.slice (some ⟨g,0,none⟩) (uB d y t s z or u 2).length cap,.slice (some ⟨wr.heap.size,0,none⟩) 2 2]).run prog (wr.alloc (.cells #[.pointer (some ⟨d,9,none⟩),.int .i64 32,.pointer (some ⟨d,10,none⟩),.int .i64 32] 101)).drew=.ok v' W'):=D;have N:=Hid.mkP B;obtain⟨g',M,rfl,-,-⟩:=B.lt;have G:uB d y t s z or u 2++endP d=uF d++lp y t s++lp z or u++endP d:=rfl;rw[G]at N C;generalize (uF d++lp y t s++lp z or u++endP d).length=N2 at N C;generalize (uB d y t s z or u 2).length=N1 at C⊢;clear K H D B O L G;go_wp2;go_region_law (refine Hz rfl (.tmp 68) (.tmp 77) (t:=96) (b:=96) rfl (vs:=(.slice (some ⟨g,0,none⟩) N1 cap)) (d:=(.slice (some ⟨wr.heap.size,0,none⟩) 2 2)) (by simp[Act.eval,Ym]) (by simp[Act.eval,Ym]) C.out ?_)
   go_wp2;go_ret;exact⟨_,rfl,N.out⟩
def KT:(prog.info? 5).map (λi=>(i.size,i.bytes,i.zero.map λz=>z.cells.size))=some (1,1,some 1):=kR
def bC(b:SP.Bs):List XB:=b.toList.map SP.encB
def uG{b:SP.Bs}:(bC b).length=b.size:=by unfold bC;simp
def zU{b:SP.Bs}:∀u∈bC b,u.oneCell'=true:=by
 intro u k;obtain⟨x,-,rfl⟩:=YC.1 k;rfl
def Ml(a b:SP.Bs):bC (a++b)=bC a++bC b:=by unfold bC;simp
def Pt.vl{W:XA}{q:Option Y0}{n c:Nat}{b:SP.Bs}(h:Pt W (.slice q n c) b):n=b.size/\VL W q n (bC b):=by
 obtain⟨p,r,l,k⟩:=h;injection l with e1 e2 e3
 subst e1 e2;refine⟨rfl,⟨uG,?_,?_,zU⟩⟩
 .intro d;rcases k with k|⟨g,o,e,-⟩
  .exact k
  .rw[d]at e;cases e
 .rcases k with k|⟨g,o,e,i,m⟩
  .left;have:(bC b).length=0:=by rw[uG];exact k
   exact List.length_eq_zero_iff.1 this
  .right;refine⟨g,o,e,i,λj u f=>?_⟩;unfold bC at f;rw[YB]at f;obtain⟨x,hx,rfl⟩:=XE.1 f;have d:j<b.size:=by
    have:=(XM.1 hx).1;simpa using this
   rw[(m j d).1];rw[getElem!_pos b j d];have:=(XM.1 hx).2;rw[Array.getElem_toList]at this;rw[this]
structure PuI(w w4 W:XA)(gp gq:Nat)(v:XB)(b:SP.Bs):Prop where
 bl:Below w.heap.size w W
 ow:W.ownsRow w.heap.size 5 1 v b.size (bC b)
 nn:v.ownBlock≠none
 n1:v.ownBlock≠some gp
 n2:v.ownBlock≠some gq
 e1:W.heap[gp]? = w4.heap[gp]?
 e2:W.heap[gq]? = w4.heap[gq]?
 sz:w4.heap.size<=W.heap.size
 l1:gp<w4.heap.size
 l2:gq<w4.heap.size
def PuI.lt{w f W:XA}{c i:Nat}{v:XB}{b:SP.Bs}(h:PuI w f W c i v b):∃g cap,v=sZ g b.size cap/\w.heap.size<=g/\g<W.heap.size:=by
 rcases id h.ow with⟨-,⟨rfl,j⟩|⟨g,cap,cur,rfl,e,k,-⟩⟩
 .exact absurd rfl h.nn
 .refine⟨g,cap,rfl,e,?_⟩;by_cases d:g<W.heap.size
  .exact d
  .rw[Z0 oM]at k;cases k
def PuI.below{w i W W':XA}{e c:Nat}{v:XB}{b:SP.Bs}(h:PuI w i W e c v b)(k:Below W.heap.size W W'):PuI w i W' e c v b:=by
 have l:=h.sz;refine⟨h.bl.trans (k.mono h.bl.size),?_,h.nn,h.n1,h.n2,by rw[k.block e (oN h.l1)];exact h.e1,by rw[k.block c (oN h.l2)];exact h.e2,XH l k.size,h.l1,h.l2⟩;rcases h.ow with⟨j,d|⟨g,cap,cur,d,o,f,m⟩⟩
 .exact⟨j,Ye d⟩
 .refine⟨j,X7 ⟨g,cap,cur,d,o,?_,m⟩⟩;rw[k.block g (by
   by_cases n:g<W.heap.size
   .exact n
   .rw[Z0 oM]at f;cases f)]
  exact f
def Ai:prog.underlying 23=some (.slice 5):=kR
def PuI.app{w y W:XA}{p m:Nat}{v:XB}{b x:SP.Bs}{q:Option Y0}{c:Nat}(h:PuI w y W p m v b)(hx:VL W q x.size (bC x))(N:b.size+x.size<=1000000):
 ∃l W',(YG #[23,23] 23 #[v,.slice q x.size c]).run prog W=.ok l W'/\PuI w y W' p m l (b++x):=by
 obtain⟨i,r,A⟩:=XE.1 KT;simp only[Ze.injEq]at A;obtain⟨E,J,L⟩:=A;obtain⟨z,B,s⟩:=XE.1 L;obtain⟨g,cap,rfl,I,K⟩:=h.lt;have G:=h.sz;cases q with
 | none =>
  have C:=hx.nil rfl;obtain rfl:x=#[]:=Array.eq_empty_of_size_eq_zero C;rcases id h.ow with⟨-,⟨d,-⟩|⟨M,t,cur,d,O,H,D,F⟩⟩
  .cases d
  .injection d with d _ h0'
   injection d with d
   injection d with d
   subst d h0';have n:=yCj (P:=prog) W 23 23 23 5 i Ai r g 0 b.size cap (.slice none 0 c) 0 [] (Src.ofNil (e':=5) _ Ai c) D (λj f=>by cases f) (λj f=>by cases f);refine⟨_,_,n,?_⟩;rw[Array.append_empty];exact h
 | some a =>
  have n:∀(j:Nat) u,(bC x)[j]? = some u->W.cell? (a.add j)=some u:=λj u f=>by
   rcases hx.cells with d|⟨b,o,t,-,n⟩
   .rw[d]at f;cases f
   .obtain rfl:=XX.inj t;rw[gI];exact n j u f
  obtain⟨l,W',F,H,d,M⟩:=yBm (P:=prog) W w.heap.size 23 23 5 i z 1 1 Ai r B E J s dC _ b.size (bC b) h.ow a x.size c (bC x) (by rw[uG];omega) n zU (by unfold maxLen;omega) oM h.bl.size;have C:=yA (c:=c) Ai r B E oM h.ow (yDp (P:=prog) (size:=1) W Ai a x.size c (bC x) (by rw[uG];omega) n zU) oM F;have D:∀k,k<y.heap.size->l.ownBlock≠some k\/(sZ g b.size cap).ownBlock=some k:=λk t=>by
   rcases C with e|e
   .by_cases hh:(sZ g b.size cap).ownBlock=some k
    .exact X7 hh
    .left;rw[e];exact hh
   .left;rw[e];intro hh;have:=XX.inj hh;omega
  refine⟨l,W',F,⟨⟨by rw[d.os,h.bl.os],by rw[d.tape,h.bl.tape],by rw[d.output,h.bl.output],XH h.bl.size d.size,λk t=>?_⟩,?_,?_,?_,?_,?_,?_,?_,h.l1,h.l2⟩⟩
  .rw[d.block k (XC t h.bl.size) (by simp[Zh];omega)];exact h.bl.block k t
  .rw[Yl,Ml];exact H
  .rcases C with e|e<;>rw[e]
   .simp[Zh]
   .simp
  .rcases D p h.l1 with e|e
   .exact e
   .exact absurd e h.n1
  .rcases D m h.l2 with e|e
   .exact e
   .exact absurd e h.n2
  .rw[d.block p (oN h.l1) (λe=>h.n1 e.symm)];exact h.e1
  .rw[d.block m (oN h.l2) (λe=>h.n2 e.symm)];exact h.e2
  .exact XH G d.size
def Ej{t n m size c:Nat}{T e:Yd}{i:TypeInfo}{z:XB}{W W':XA}{v w:XB}{xs b:List XB}{a:Y0}(F:prog.underlying T=some (.slice e))(C:prog.info? e=some i)(K:i.zero=some z)(H:i.size=size)(D:i.bytes<=1000)
 (f:W.ownsRow t e size v n xs) (s:Src prog size T (.slice (some a) m c) m b W) (k:n+m<=1000000000)
 (p:(YG #[T,T] T #[v,.slice (some a) m c]).run prog W=.ok w W'):w.ownBlock=v.ownBlock\/(w.ownBlock=some W.heap.size/\Below W.heap.size W W'):=by
 subst H;have o:∀(q:Option Y0) (cap:Nat) (olds:List XB),v=.slice q n cap->cap<n+m->(yC1 i.size n (.slice q n cap)).run prog W.drew=.ok olds.toArray W.drew->w.ownBlock=v.ownBlock\/(w.ownBlock=some W.heap.size/\Below W.heap.size W W'):=λq cap olds hv J y=>by
  have E:=uV J;have A:yA5 (n+m) cap*i.bytes<=(2*(n+m)+768)*1000:=ZD E D;have r:=run_append_grow_src (P:=prog) W T T T e i z F C K q n cap olds y (.slice (some a) m c) m b s J oM (XH A (by clear E A;omega));rw[hv,r]at p;injection p with hr1 k
  right;refine⟨by rw[<-hr1];rfl,?_⟩;rw[<-k];exact(⟨rfl,rfl,rfl,XD _,λ_ _=>rfl⟩:Below W.heap.size W W.drew).trans (bG W.drew _)
 rcases id f with⟨-,⟨rfl,rfl⟩|⟨g,cap,cur,rfl,R,I,Q,N,L,O⟩⟩
 .by_cases M:m=0
  .subst M;have G:=p;obtain⟨d,k⟩:∃d,(YG #[T,T] T #[.slice none 0 0,.slice (some a) 0 c]).run prog W=.ok (.slice none 0 0) d:=by
    rcases s.kind with⟨e',B⟩|B<;>exact⟨_,by simp[YG,yAZ F,yAZ B,sizeOf,typeInfo,C,s.len,s.cells];rfl⟩
   rw[k]at p;injection p with hr1 k
   left;rw[<-hr1]
  .exact o none 0 [] rfl oM (run_firstCells_none W.drew i.size 0 0 0)
 .by_cases d:n+m<=cap
  .have r:=yCj (P:=prog) W T T T e i F C g 0 n cap (.slice (some a) m c) m b s d
    (λj B=>by
     have G:n*i.size+j<cur.size:=by
      rw[L];have E:j<m*i.size:=by rw[<-s.newsLen];exact B
      have A:(n+m)*i.size<=cap*i.size:=yAn _ d;rw[yAs]at A;omega
     simp[YZ,I,XI,X8 G])
    (λj B=>by simp[Zk,I])
   rw[r]at p;injection p with hr1 k
   left;rw[<-hr1];rfl
  .refine o (some ⟨g,0,none⟩) cap xs rfl oM ?_;exact run_firstCells_some W.drew i.size n ⟨g,0,none⟩ n cap xs f.1 (λj u B=>by rw[yBD];exact f.cells (g:=g) rfl j u B)
structure Ap1(W W':XA)(v v':XB):Prop where
 os:W'.os=W.os
 tape:W'.tape=W.tape
 output:W'.output=W.output
 size:W.heap.size<=W'.heap.size
 keep:∀g,g<W.heap.size->v.ownBlock≠some g->W'.heap[g]? = W.heap[g]?
 mv:v'.ownBlock=v.ownBlock\/((∃g,v'.ownBlock=some g/\W.heap.size<=g)/\∀g,g<W.heap.size->W'.heap[g]? = W.heap[g]?)
def bE{W W':XA}{b n k:Nat}{e:Yd}{v:XB}{xs:List XB}(h:W.ownsRow b e k v n xs)(f:∀g,v.ownBlock=some g->W'.heap[g]? = W.heap[g]?):W'.ownsRow b e k v n xs:=by
 rcases h with⟨c,i|⟨g,cap,cur,rfl,j,l,d⟩⟩
 .exact⟨c,Ye i⟩
 .exact⟨c,X7 ⟨g,cap,cur,rfl,j,by rw[f g rfl];exact l,d⟩⟩
def bQ{W:XA}{b n k g:Nat}{e:Yd}{v:XB}{xs:List XB}(h:W.ownsRow b e k v n xs)(c:v.ownBlock=some g):b<=g/\g<W.heap.size/\∃cur,W.heap[g]? = some (.cells cur e (0,0)):=by
 rcases h with⟨l,⟨rfl,-⟩|⟨f,cap,cur,rfl,i,d,j⟩⟩
 .cases c
 .obtain rfl:f=g:=XX.inj c;refine⟨i,?_,cur,d⟩;by_cases c:f<W.heap.size
  .exact c
  .rw[Z0 oM]at d;cases d
def TyQ(W:XA)(L g:Nat):Prop:=g<W.heap.size/\(g<L\/∃cur,W.heap[g]? = some (.cells cur 5 (0,0)))
def Ei{W:XA}{B g c:Nat}{b:SP.Bs}(h:W.ownsRow B 5 1 (sZ g b.size c) b.size (bC b)):Holds SP.encB W g 0 b:=λk e=>by
 obtain⟨-,-,cur,f⟩:=bQ h (g:=g) rfl;refine⟨?_,by simp[Zk,f]⟩;have d:=h.cells (g:=g) rfl k (SP.encB b[k]!) (by
  unfold bC;rw[YB,XO (by simpa using e),yAq,getElem!_pos b k e];simp)
 rw[gI]at d;exact d
def RV(W:XA)(L:Nat)(v:XB)(b:SP.Bs):Prop:=(b.size=0/\v=nZ)\/∃g c,v=sZ g b.size c/\TyQ W L g/\Holds SP.encB W g 0 b
def B6{k n ga:Nat}{W:XA}{v x:XB}{xs:List XB}(b:W.ownsRow k 23 1 v n xs)(hx:x.oneCell'=true)(d:W.cell? ⟨ga,0,none⟩=some x)(I:n<=1000)(F:k<=W.heap.size):
 ∃f W',(YG #[27,27] 27 #[v,sZ ga 1 1]).run prog W=.ok f W'/\W'.ownsRow k 23 1 f (n+1) (xs++[x])/\Ap1 W W' v f:=by
 obtain⟨i,t,r⟩:=XE.1 Sk;simp only[Ze.injEq]at r;obtain⟨w,G,H⟩:=r;obtain⟨z,s,o⟩:=XE.1 H;have y:∀(j:Nat) u,[x][j]? = some u->W.cell? ((⟨ga,0,none⟩:Y0).add j)=some u:=λj u A=>by
  rw[gI,XI];have e:j=0:=by have:=(XM.1 A).1;simp at this;omega
  subst e;obtain rfl:x=u:=by simpa using A
  exact d
 have e:∀u∈[x],u.oneCell'=true:=λu D=>by
  obtain rfl:u=x:=by simpa using D
  exact hx
 obtain⟨f,W',B,E,m,-⟩:=yBm (P:=prog) W k 27 27 23 i z 1 24 Fy t s w G o dC v n xs b (aZ ga) 1 1 [x] rfl y e (by unfold maxLen;omega) oM F;have C:=Ej (c:=1) Fy t s w oM b (yDp (P:=prog) (size:=1) W Fy (aZ ga) 1 1 [x] rfl y e) oM B;refine⟨f,W',B,E,m.os,m.tape,m.output,m.size,λg q hv=>m.block g q (λh=>hv h.symm),?_⟩;rcases C with h|⟨h,p⟩
 .exact Ye h
 .exact X7 ⟨⟨_,h,XD _⟩,λg q=>p.block g q⟩
section
variable {Q Q':Nat->Prop}{W:XA}{v:XB}{n:Nat}
def SmQ.mono2{l:LB}(h:SmQ Q W v l)(f:∀g,g<W.heap.size->Q g->Q' g):SmQ Q' W v l:=by
 obtain⟨g,c,e,i,d,k,b⟩:=h;exact⟨g,c,e,i,f g k d,k,b⟩
def SLq.mono2{a:Nat->Nat}(h:SLq Q W v n a)(f:∀g,g<W.heap.size->Q g->Q' g):SLq Q' W v n a:=by
 obtain⟨g,o,c,e,i,d,k,b⟩:=h;exact⟨g,o,c,e,i,f g k d,k,b⟩
def GLq.mono2{T:Nat->LB}(h:GLq Q W v n T)(b:∀g,g<W.heap.size->Q g->Q' g):GLq Q' W v n T:=by
 obtain⟨g,o,c,i,p,f,k,e⟩:=h;refine⟨g,o,c,i,p,b g k f,k,λj l=>?_⟩;obtain⟨x,m,d⟩:=e j l;exact⟨x,m,d.mono2 b⟩
def GRq.mono2{G H:Nat->LB}{U:LB}(h:GRq Q W v n G H U)(k:∀g,g<W.heap.size->Q g->Q' g):GRq Q' W v n G H U:=by
 obtain⟨c,f,i,e,j,d,b⟩:=h.ex;exact⟨c,f,i,e,j.mono2 k,d.mono2 k,b.mono2 k⟩
end
def ElQ(Q:Nat->Prop)(m:Nat)(W:XA)(x:XB)(b:Bs):Prop:=∃k c,x=sZ k m c/\m<=c/\b.size=m/\Q k/\k<W.heap.size/\hZ W k 0 b
section
variable {Q Q':Nat->Prop}{W W':XA}{x:XB}{m:Nat}{b:Bs}
def ElQ.keep(h:ElQ Q m W x b)(g:Kq Q W W'):ElQ Q m W' x b:=by
 obtain⟨k,c,n,p,i,f,d,l⟩:=h;refine⟨k,c,n,p,i,f,XC d g.size,λj o=>?_⟩;have e:=g.block k f d;rw[X4 (a:=⟨k,0+j,none⟩) e,Y2 (a:=⟨k,0+j,none⟩) e];exact l j o
def ElQ.mono2(h:ElQ Q m W x b)(l:∀g,g<W.heap.size->Q g->Q' g):ElQ Q' m W x b:=by
 obtain⟨k,c,j,n,f,e,d,i⟩:=h;exact⟨k,c,j,n,f,l k d e,d,i⟩
def ElQ.one(h:ElQ Q m W x b):x.cells=#[x]/\x.oneCell'=true:=by
 obtain⟨k,c,rfl,-⟩:=h;exact⟨rfl,rfl⟩
def ElQ.arg(h:ElQ Q 33 W x b):Arg33 W x b:=by
 obtain⟨k,c,rfl,g,e,-,d,f⟩:=h;exact⟨_,33,c,rfl,e,λ_=>⟨k,0,rfl,g,d,f⟩⟩
end
def r33(g:Nat):XB:=sZ g 33 33
def r32(g:Nat):XB:=sZ g 32 32
def eG{w:XA}{a:Bs}(f:a.size=33):YN prog 19 #[pvl a] w (rZ w λe w'=>ElQ (w.heap.size<=·) 33 w' e a/\∃g,e=r33 g):=by
 have i:=Hid.mk' (sL f w);obtain⟨c,b⟩:=hE (w.alloc (.cells (aA a).toArray 51));rw[b.out]at i;have K:Hid (Row c w.heap.size (aA a)/\kZ w c):=by rw[<-b.out];exact⟨row_new w _ _,aD _⟩
 obtain⟨va,k⟩:=hE (pvl a);have d:Hid ((Ys 51 va).run prog w=.ok (jZ w.heap.size) c):=by rw[<-k.out];exact i
 rw[k.out];have j:=TT w.heap.size;go_enter func19,ntmps19;go_wp2_with (first|(refine aG (u:=va) (v:=jZ w.heap.size) (w':=c) rfl 51 (.tmp 0) rfl ?_ ?_ ?_;rfl;exact d))
 go_ret;exact⟨_,rfl,K.2,⟨w.heap.size,33,rfl,oM,f,XD _,K.1.1,row_holds K.1⟩,_,rfl⟩
structure TlL(Q:Nat->Prop)(base i:Nat)(W:XA)(v:XB)(B:Nat->Bs):Prop where
 ex:∃xs,W.ownsRow base 23 1 v i xs/\∀j,j<i->∃x,xs[j]? = some x/\ElQ Q 33 W x (B j)
def QH(r k:Nat)(c b:XB)(g:Nat):Prop:=g≠r/\(g<k\/k+4<=g)/\c.ownBlock≠some g/\b.ownBlock≠some g
def Dj(W:XA)(B i j:Nat)(v u:XB):Prop:=∃l m:List Nat,(l++m).Nodup/\W.ownsRow 0 23 1 v i (l.map r33)/\W.ownsRow 0 23 1 u j (m.map r33)/\∀g,g∈l++m->B<=g/\g<W.heap.size
def RR{l m:List Nat}{g:Nat}(h:(l++m).Nodup)(k:g ∉ l++m):(l++[g]++m).Nodup:=by
 simp only[yBC,Y9,not_or,Zj,List.nodup_cons,Yf,not_false_eq_true,List.nodup_nil,and_true,true_and]at *;grind
def Oo{l m:List Nat}(h:(l++m).Nodup):(m++l).Nodup:=by
 simp only[yBC]at *;grind
def J6{W:XA}{b f n:Nat}{T:Yd}{v:XB}{xs ys:List XB}(k:W.ownsRow b T 1 v n xs)(c:W.ownsRow f T 1 v n ys):xs=ys:=by
 have i:=k.1;have l:=c.1;rcases id k with⟨-,⟨-,d⟩|⟨g,cap,cur,rfl,-⟩⟩
 .subst d;rw[yCt (by omega:xs.length=0),yCt (by omega:ys.length=0)]
 .refine List.ext_getElem? λj=>?_
  by_cases m:j<n
  .have e:=k.cells (g:=g) rfl j xs[j] (XO oM);have a2:=c.cells (g:=g) rfl j ys[j] (XO oM);rw[e]at a2;rw[XO (by omega:j<xs.length),XO (by omega:j<ys.length)];exact a2
  .rw[ZK oM,ZK oM]
section
variable {W W' W1:XA}{B i j:Nat}{v u:XB}
def Dj.keep(h:Dj W B i j v u)(c:W.heap.size<=W'.heap.size)(hv:∀g,v.ownBlock=some g->W'.heap[g]? = W.heap[g]?)(n:∀g,u.ownBlock=some g->W'.heap[g]? = W.heap[g]?):Dj W' B i j v u:=by
 obtain⟨l,m,d,f,e,b⟩:=h;exact⟨l,m,d,bE f hv,bE e n,λg k=>⟨(b g k).1,XC (b g k).2 c⟩⟩
def Dj.swap(h:Dj W B i j v u):Dj W B j i u v:=by
 obtain⟨l,m,c,e,d,b⟩:=h;exact⟨m,l,Oo c,d,e,λg k=>b g (by rw[Y9]at k⊢;exact k.symm)⟩
def Dj.app{g:Nat}{o:XB}{xs:List XB}{b:Nat}(h:Dj W B i j v u)(p:B<=g/\W.heap.size<=g/\g<W'.heap.size)(t:W.heap.size<=W'.heap.size)(hx:W1.ownsRow b 23 1 v i xs)(hv:∀g,v.ownBlock=some g->W1.heap[g]? = W.heap[g]?)(w:∀g,u.ownBlock=some g->W'.heap[g]? = W.heap[g]?)(n:W'.ownsRow b 23 1 o (i+1) (xs++[r33 g])):Dj W' B (i+1) j o u:=by
 obtain⟨l,m,c,r,d,f⟩:=h;rw[J6 hx (bE r hv)]at n;refine⟨l++[g],m,RR c λe=>oN ((f g e).2),?_,bE d w,λs k=>?_⟩
 .rw[Y1];rcases n with⟨q,c|⟨g,cap,cur,rfl,r,d⟩⟩
  .exact⟨q,Ye c⟩
  .exact⟨q,X7 ⟨g,cap,cur,rfl,Zl _,d⟩⟩
 .by_cases e:s=g
  .rw[e];exact⟨p.1,p.2.2⟩
  .have q:=f s (by simp only[Y9,Zj]at k⊢;grind);exact⟨q.1,XC q.2 t⟩
end
def R3(W:XA)(K:Nat)(x y:XB):Prop:=K<W.heap.size/\∃rs,rs.length=2/\Row W K (x :: y :: rs)
def R3.same{W W':XA}{K:Nat}{x y:XB}(h:R3 W K x y)(k:W.heap.size<=W'.heap.size)(e:W'.heap[K]? = W.heap[K]?):R3 W' K x y:=by
 obtain⟨c,rs,d,b⟩:=h;exact⟨XC c k,rs,d,aQ b k e⟩
structure Ph(w W:XA)(r k iL iR n:Nat)(cL cR vL vR v va vb:XB)(Lb Rb:Nat->Bs)(L:Bs)(a b:Nat->Nat)(G H:Nat->LB)(U:LB):Prop where
 on:SP.Only r 0 32 w W
 rk:r<k
 wk:w.heap.size=k
 r0:Row W k [jZ r]
 r1:∃e:Array XB,v=.agg e/\e.size=3/\e.all (·.oneCell')=true/\Row W (k+1) e.toList
 r2:Row W (k+2) [nZ,nZ,nZ,nZ]
 r3:R3 W (k+3) cL cR
 tL:TlL (QH r k vL vR) (k+4) iL W vL Lb
 tR:TlL (QH r k vL vR) (k+4) iR W vR Rb
 ne:∀g,vL.ownBlock=some g->vR.ownBlock≠some g
 la:SLq (QH r k vL vR) W va n a
 lb:SLq (QH r k vL vR) W vb n b
 gr:GRq (QH r k vL vR) W v n G H U
 lg:hZ W r 0 L
 ls:L.size=32
 dj:Dj W (k+4) iL iR vL vR
section
variable {w W W' W1:XA}{r k iL iR n:Nat}{cL cR vL vR v va vb:XB}{Lb Rb:Nat->Bs}{L:Bs}{a b:Nat->Nat}{G H:Nat->List (Nat × Bs)}{U:List (Nat × Bs)}
def TlL.lt{Q:Nat->Prop}{k i:Nat}{B:Nat->Bs}(h:TlL Q k i W v B){g:Nat}(b:v.ownBlock=some g):k<=g/\g<W.heap.size:=by
 obtain⟨xs,c,-⟩:=h.ex;have:=bQ c b;exact⟨this.1,this.2.1⟩
def TlL.keep{Q:Nat->Prop}{k i:Nat}{B:Nat->Bs}(h:TlL Q k i W v B)(d:Kq Q W W')(ho:∀g,v.ownBlock=some g->W'.heap[g]? = W.heap[g]?):TlL Q k i W' v B:=by
 obtain⟨xs,f,l⟩:=h.ex;refine⟨xs,bE f ho,λj e=>?_⟩;obtain⟨x,b,c⟩:=l j e;exact⟨x,b,c.keep d⟩
def TlL.mono2{Q Q':Nat->Prop}{k i:Nat}{B:Nat->Bs}(h:TlL Q k i W v B)(f:∀g,g<W.heap.size->Q g->Q' g):TlL Q' k i W v B:=by
 obtain⟨xs,d,l⟩:=h.ex;refine⟨xs,d,λj e=>?_⟩;obtain⟨x,c,b⟩:=l j e;exact⟨x,c,b.mono2 f⟩
def Ph.qn(h:Ph w W r k iL iR n cL cR vL vR v va vb Lb Rb L a b G H U):∀g,W.heap.size<=g->QH r k vL vR g:=λg c =>
 ⟨by have:=h.rk;have:=h.r0.1;omega,X7 (oN h.r3.1),λe=>oN (h.tL.lt e),λe=>oN (h.tR.lt e)⟩
def Ph.any(h:Ph w W r k iL iR n cL cR vL vR v va vb Lb Rb L a b G H U)(q:SP.Only r 0 32 w W')(kq:Kq (QH r k vL vR) W W')(c:∀g,k<=g->g<k+4->W'.heap[g]? = W.heap[g]?)(i:∀g,vL.ownBlock=some g->W'.heap[g]? = W.heap[g]?)(j:∀g,vR.ownBlock=some g->W'.heap[g]? = W.heap[g]?){d:Bs}(m:hZ W' r 0 d)(f:d.size=32):Ph w W' r k iL iR n cL cR vL vR v va vb Lb Rb d a b G H U:=by
 obtain⟨e,l,o,e3,p⟩:=h.r1;exact⟨q,h.rk,h.wk,aQ h.r0 kq.size (c k oM oM),⟨e,l,o,e3,aQ p kq.size (c _ oM oM)⟩,aQ h.r2 kq.size (c _ oM oM),h.r3.same kq.size (c _ oM oM),h.tL.keep kq i,h.tR.keep kq j,h.ne,h.la.keep kq,h.lb.keep kq,h.gr.keep kq,m,f,h.dj.keep kq.size i j⟩
def Ph.grow(h:Ph w W r k iL iR n cL cR vL vR v va vb Lb Rb L a b G H U)(c:kZ W W'):Ph w W' r k iL iR n cL cR vL vR v va vb Lb Rb L a b G H U:=by
 have e:=Holds.lt h.lg (by rw[h.ls];decide);exact h.any (h.on.trans (SP.Only.of_below c rfl e)) (Kq.of_below c) (λg f i=>c.block g (oN h.r3.1)) (λg d=>c.block g (h.tL.lt d).2) (λg d=>c.block g (h.tR.lt d).2) (Holds.below h.lg c e) h.ls
def Ph.drew(h:Ph w W r k iL iR n cL cR vL vR v va vb Lb Rb L a b G H U):Ph w W.drew r k iL iR n cL cR vL vR v va vb Lb Rb L a b G H U:=h.grow ⟨rfl,rfl,rfl,XD _,λ_ _=>rfl⟩
def Ph.say{e:Bs}(h:Ph w W r k iL iR n cL cR vL vR v va vb Lb Rb L a b G H U)(d:SP.Only r 0 32 W W')(f:hZ W' r 0 e)(i:e.size=32):Ph w W' r k iL iR n cL cR vL vR v va vb Lb Rb e a b G H U:=by
 have j:=h.rk;exact h.any (h.on.trans d) (Kq.of_only d λg c=>c.1) (λg l m=>d.block g (oN h.r3.1) oM) (λg c=>d.block g (h.tL.lt c).2 (oN ((h.tL.lt c).1))) (λg c=>d.block g (h.tR.lt c).2 (oN ((h.tR.lt c).1))) f i
def Hd{l n:XB}{k:Nat}(b:SP.Only r 0 32 w W)(c:Ap1 W W' l n)(q:w.heap.size=k)(m:r<k)(hv:∀g,l.ownBlock=some g->k+4<=g):SP.Only r 0 32 w W':=by
 have p:=b.size;have f:∀j,j<k->W'.heap[j]? = W.heap[j]?:=λj i=>c.keep j oM λe=>oN (hv j e)
 exact⟨c.os.trans b.os,c.tape.trans b.tape,c.output.trans b.output,XH b.size c.size,λj i d=>(f j oM).trans (b.block j i d),λo ho=>by rw[X4 (a:=⟨r,o,none⟩) (f r m)];exact b.cell o ho,λo=>by rw[Y2 (a:=⟨r,o,none⟩) (f r m)];exact b.froz o⟩
def jU{W W':XA}{r:Nat}{L:Bs}(h:hZ W r 0 L)(e:W'.heap[r]? = W.heap[r]?):hZ W' r 0 L:=λj k=>by
 rw[X4 (a:=⟨r,0+j,none⟩) e,Y2 (a:=⟨r,0+j,none⟩) e];exact h j k
def TlL.app{Q Q':Nat->Prop}{k i:Nat}{B:Nat->Bs}{d x:XB}{xs:List XB}(c:∀j,j<i->∃x,xs[j]? = some x/\ElQ Q 33 W x (B j))(b:xs.length=i)(ho:W'.ownsRow k 23 1 d (i+1) (xs++[x]))(hx:ElQ Q 33 W x (B i))(f:∀g,g<W.heap.size->Q g->Q' g)(kq:Kq Q' W W'):TlL Q' k (i+1) W' d B:=by
 refine⟨_,ho,λj n=>?_⟩;by_cases e:j=i
 .subst e;exact⟨x,by rw[XW oM,b];simp,(hx.mono2 f).keep kq⟩
 .obtain⟨y,l,m⟩:=c j oM;exact⟨y,by rw[List.getElem?_append_left oM];exact l,(m.mono2 f).keep kq⟩
def Ph.appL{ga gx:Nat}(l:Ph w W1 r k iL iR n cL cR vL vR v va vb Lb Rb L a b G H U)(f:kZ W1 W)(p:ElQ (W1.heap.size<=·) 33 W (r33 gx) (Lb iL))(I:W.cell? ⟨ga,0,none⟩=some (r33 gx))(O:iL<=900):
 ∃j W',(YG #[27,27] 27 #[vL,sZ ga 1 1]).run prog W=.ok j W'/\Ph w W' r k (iL+1) iR n cL cR j vR v va vb Lb Rb L a b G H U/\Ap1 W W' vL j:=by
 have h:=l.grow f;have hx:=p.mono2 λg _ c=>l.qn g c
 obtain⟨xs,s,E⟩:=h.tL.ex;obtain⟨j,W',N,t,A⟩:=B6 s hx.one.2 I oM (oN h.r3.1);have o:∀g,g<W.heap.size->QH r k vL vR g->QH r k j vR g:=λg c q=>⟨q.1,q.2.1,λe=>by
  rcases A.mv with m|⟨⟨F,m,B⟩,-⟩
  .rw[m]at e;exact q.2.2.1 e
  .rw[m]at e;have:=XX.inj e;omega,q.2.2.2⟩
 have kq:Kq (QH r k j vR) W W':=⟨A.size,λg q c=>by
  rcases A.mv with m|⟨-,m⟩
  .exact A.keep g c (by rw[<-m];exact q.2.2.1)
  .exact m g c⟩
 have d:∀g,vL.ownBlock=some g->k+4<=g:=λg c=>(h.tL.lt c).1
 have K:=h.on.size;have M:=h.wk;have C:=h.rk;have i:∀g,k<=g->g<k+4->W'.heap[g]? = W.heap[g]?:=λg R P=>A.keep g (oN h.r3.1) λe=>oN (d g e)
 obtain⟨e,x,D,e3,y⟩:=h.r1;refine⟨j,W',N,⟨Hd h.on A h.wk h.rk d,h.rk,h.wk,aQ h.r0 A.size (i k oM oM),⟨e,x,D,e3,aQ y A.size (i _ oM oM)⟩,aQ h.r2 A.size (i _ oM oM),h.r3.same A.size (i _ oM oM),TlL.app E (oN s.1) t hx o kq,(h.tR.mono2 o).keep kq λg c=>A.keep g (h.tR.lt c).2 λe=>h.ne g e c,λg c e=>?_,(h.la.mono2 o).keep kq,(h.lb.mono2 o).keep kq,(h.gr.mono2 o).keep kq,jU h.lg (A.keep r oM λe=>oN (d r e)),h.ls,(by
  obtain⟨z,Q,e,-,-,J,u,-⟩:=p;have e:=congrArg Zh e;obtain rfl:gx=z:=XX.inj e;exact(l.dj.app ⟨oN l.r3.1,J,XC u A.size⟩ (XH f.size A.size) s (λg c=>f.block g (l.tL.lt c).2) (λg c=>(A.keep g (h.tR.lt c).2 λe=>h.ne g e c).trans (f.block g (l.tR.lt c).2)) t))⟩,A⟩
 rcases A.mv with m|⟨⟨F,m,B⟩,-⟩
 .rw[m]at c;exact h.ne g c e
 .rw[m]at c;have:=XX.inj c;have:=(h.tR.lt e).2;omega
def Ph.appR{ga gx:Nat}(l:Ph w W1 r k iL iR n cL cR vL vR v va vb Lb Rb L a b G H U)(f:kZ W1 W)(p:ElQ (W1.heap.size<=·) 33 W (r33 gx) (Rb iR))(I:W.cell? ⟨ga,0,none⟩=some (r33 gx))(O:iR<=900):
 ∃j W',(YG #[27,27] 27 #[vR,sZ ga 1 1]).run prog W=.ok j W'/\Ph w W' r k iL (iR+1) n cL cR vL j v va vb Lb Rb L a b G H U/\Ap1 W W' vR j:=by
 have h:=l.grow f;have hx:=p.mono2 λg _ c=>l.qn g c
 obtain⟨xs,s,E⟩:=h.tR.ex;obtain⟨j,W',N,t,A⟩:=B6 s hx.one.2 I oM (oN h.r3.1);have o:∀g,g<W.heap.size->QH r k vL vR g->QH r k vL j g:=λg c q=>⟨q.1,q.2.1,q.2.2.1,λe=>by
  rcases A.mv with m|⟨⟨F,m,B⟩,-⟩
  .rw[m]at e;exact q.2.2.2 e
  .rw[m]at e;have:=XX.inj e;omega⟩
 have kq:Kq (QH r k vL j) W W':=⟨A.size,λg q c=>by
  rcases A.mv with m|⟨-,m⟩
  .exact A.keep g c (by rw[<-m];exact q.2.2.2)
  .exact m g c⟩
 have d:∀g,vR.ownBlock=some g->k+4<=g:=λg c=>(h.tR.lt c).1
 have K:=h.on.size;have M:=h.wk;have C:=h.rk;have i:∀g,k<=g->g<k+4->W'.heap[g]? = W.heap[g]?:=λg R P=>A.keep g (oN h.r3.1) λe=>oN (d g e)
 obtain⟨e,x,D,e3,y⟩:=h.r1;refine⟨j,W',N,⟨Hd h.on A h.wk h.rk d,h.rk,h.wk,aQ h.r0 A.size (i k oM oM),⟨e,x,D,e3,aQ y A.size (i _ oM oM)⟩,aQ h.r2 A.size (i _ oM oM),h.r3.same A.size (i _ oM oM),(h.tL.mono2 o).keep kq λg c=>A.keep g (h.tL.lt c).2 λe=>h.ne g c e,TlL.app E (oN s.1) t hx o kq,λg c e=>?_,(h.la.mono2 o).keep kq,(h.lb.mono2 o).keep kq,(h.gr.mono2 o).keep kq,jU h.lg (A.keep r oM λe=>oN (d r e)),h.ls,(by
  obtain⟨z,Q,e,-,-,J,u,-⟩:=p;have e:=congrArg Zh e;obtain rfl:gx=z:=XX.inj e;exact(l.dj.swap.app ⟨oN l.r3.1,J,XC u A.size⟩ (XH f.size A.size) s (λg c=>f.block g (l.tR.lt c).2) (λg c=>(A.keep g (h.tL.lt c).2 λe=>h.ne g c e).trans (f.block g (l.tL.lt c).2)) t).swap)⟩,A⟩
 rcases A.mv with m|⟨⟨F,m,B⟩,-⟩
 .rw[m]at e;exact h.ne g c e
 .rw[m]at e;have:=XX.inj e;have:=(h.tL.lt c).2;omega
def lD{W:XA}{K o:Nat}{vs:List XB}{x:XB}(h:Row W K vs)(ho:o<vs.length):Row (W.setCells K o [x]) K (vs.set o x):=by
 have c:W.there K o 1:=λt c=>by
  have k:t=0:=oM;subst k;have:=h.2.2 o ho;rwa[XI]at this
 refine⟨by rw[setCells_size];exact h.1,λj u b=>?_,by rw[yDY];exact Zg h.2.2 _ _ _⟩;rw[List.getElem?_set]at b;by_cases e:o=j
 .subst e;rw[yEX rfl,yEX ho]at b;obtain rfl:x=u:=by simpa using b
  have:=YY W K o [x] c 0 x rfl;rw[XI];exact this
 .rw[yEY e]at b;have f:W.rangeAt K j [u]:=λt y d=>by
   have k:t=0:=by have:=(XM.1 d).1;simp at this;omega
   subst k;obtain rfl:u=y:=by simpa using d
   have:=h.2.1 j u b;rw[XI]at this;exact this
  have:=Yn f K o [x] (X7 (by simp;omega)) 0 u rfl;rw[XI];exact this
def jN{k K o:Nat}{vs:List XB}(h:SP.Only r 0 32 w W)(c:w.heap.size=k)(d:r<k)(b:k<=K):SP.Only r 0 32 w (W.setCells K o vs):=dT h oM oM
def Ph.put(h:Ph w W r k iL iR n cL cR vL vR v va vb Lb Rb L a b G H U):Ph w ((W.setCells (k+3) 0 [vL]).setCells (k+3) 1 [vR]) r k iL iR n vL vR vL vR v va vb Lb Rb L a b G H U:=by
 have o:=h.rk;have c:∀g,g≠k+3->((W.setCells (k+3) 0 [vL]).setCells (k+3) 1 [vR]).heap[g]? = W.heap[g]?:=λg f=>(aE [vR] 1 _ g f).trans (aE [vL] 0 W g f)
 have d:W.heap.size<=((W.setCells (k+3) 0 [vL]).setCells (k+3) 1 [vR]).heap.size:=by rw[setCells_size,setCells_size];exact XD _
 have kq:Kq (QH r k vL vR) W ((W.setCells (k+3) 0 [vL]).setCells (k+3) 1 [vR]):=⟨d,λg q _=>c g (oN q.2.1)⟩
 obtain⟨e,l,p,e3,i⟩:=h.r1;exact⟨jN (jN h.on h.wk h.rk oM) h.wk h.rk oM,h.rk,h.wk,aQ h.r0 d (c _ oM),⟨e,l,p,e3,aQ i d (c _ oM)⟩,aQ h.r2 d (c _ oM),(by
  obtain⟨m,rs,s,j⟩:=h.r3;exact⟨XC m d,rs,s,lD (lD j (yCE _)) (Nat.succ_lt_succ (yCE _))⟩),h.tL.keep kq λg f=>c g (oN ((h.tL.lt f).1)),h.tR.keep kq λg f=>c g (oN ((h.tR.lt f).1)),h.ne,h.la.keep kq,h.lb.keep kq,h.gr.keep kq,jU h.lg (c r oM),h.ls,h.dj.keep d (λg f=>c g (oN ((h.tL.lt f).1))) (λg f=>c g (oN ((h.tR.lt f).1)))⟩
def Ph.putA{o:Nat}{x:XB}(h:Ph w W r k iL iR n cL cR vL vR v va vb Lb Rb L a b G H U)(ho:o<2):Ph w (W.setCells (k+3) (o+2) [x]) r k iL iR n cL cR vL vR v va vb Lb Rb L a b G H U:=by
 have m:=h.rk;have c:∀g,g≠k+3->(W.setCells (k+3) (o+2) [x]).heap[g]? = W.heap[g]?:=λg f=>aE [x] _ _ g f
 have d:W.heap.size<=(W.setCells (k+3) (o+2) [x]).heap.size:=by rw[setCells_size];exact XD _
 have kq:Kq (QH r k vL vR) W (W.setCells (k+3) (o+2) [x]):=⟨d,λg q _=>c g (oN q.2.1)⟩
 obtain⟨e,i,p,e3,j⟩:=h.r1;exact⟨jN h.on h.wk h.rk oM,h.rk,h.wk,aQ h.r0 d (c _ oM),⟨e,i,p,e3,aQ j d (c _ oM)⟩,aQ h.r2 d (c _ oM),(by
  obtain⟨l,rs,s,t⟩:=h.r3;exact⟨XC l d,rs.set o x,by rw[yDY,s],lD (o:=o+2) t (by simp;omega)⟩),h.tL.keep kq λg f=>c g (oN ((h.tL.lt f).1)),h.tR.keep kq λg f=>c g (oN ((h.tR.lt f).1)),h.ne,h.la.keep kq,h.lb.keep kq,h.gr.keep kq,jU h.lg (c r oM),h.ls,h.dj.keep d (λg f=>c g (oN ((h.tL.lt f).1))) (λg f=>c g (oN ((h.tR.lt f).1)))⟩
def Ph.next{m:Nat}{i j:XB}{e':Array XB}{o t:Nat->Nat}{s p:Nat->LB}(h:Ph w W r k iL iR n cL cR vL vR v va vb Lb Rb L a b G H U)(A:SLq (QH r k vL vR) W i m o)(x:SLq (QH r k vL vR) W j m t)(d:GRq (QH r k vL vR) W (.agg e') m s p U):Ph w (W.setCells (k+1) 0 e'.toList) r k iL iR m cL cR vL vR (.agg e') i j Lb Rb L o t s p U:=by
 have y:=h.rk;have c:∀g,g≠k+1->(W.setCells (k+1) 0 e'.toList).heap[g]? = W.heap[g]?:=λg d=>aE _ 0 W g d
 have f:W.heap.size<=(W.setCells (k+1) 0 e'.toList).heap.size:=by rw[setCells_size];exact XD _
 have kq:Kq (QH r k vL vR) W (W.setCells (k+1) 0 e'.toList):=⟨f,λg q _=>c g (oN q.2.1)⟩
 obtain⟨e,B,z,e3,u⟩:=h.r1;obtain⟨l,f1,f2,f3⟩:=d.ar;obtain rfl:e'=l:=by injection f1
 exact⟨jN h.on h.wk h.rk oM,h.rk,h.wk,aQ h.r0 f (c _ oM),⟨e',rfl,f2,f3,u.put (by rw[XU,XU,f2,z])⟩,aQ h.r2 f (c _ oM),h.r3.same f (c _ oM),h.tL.keep kq λg d=>c g (oN ((h.tL.lt d).1)),h.tR.keep kq λg d=>c g (oN ((h.tR.lt d).1)),h.ne,A.keep kq,x.keep kq,d.keep kq,jU h.lg (c r oM),h.ls,h.dj.keep f (λg d=>c g (oN ((h.tL.lt d).1))) (λg d=>c g (oN ((h.tR.lt d).1)))⟩
end
section
open SPA
variable {P:Nat}[NeZero P]{N:Nat}[NeZero N]
abbrev wP{P:Nat}[NeZero P](X:OnP P):Bs:=wr X.1
def kM(a b:Nat->Fin N):∀n,prS N (λi=>(a i).val) (λi=>(b i).val) n=(Md.pr a b n).val
 | 0=>(yA6 N).symm
 | n+1=>by
  show sPl N (prS N _ _ n) (sTi N (b n).val (a n).val)=(Md.pr a b n+a n*b n).val;rw[kM a b n,jP,eR];unfold sTi;rw[YK]
omit [NeZero N] in
theorem C4(x y:Fin N)(n:Nat)(a:Nat->Fin N)(i:Nat):qC N x.val y.val n (λi=>(a i).val) i=(Md.fS x y n a i).val:=by
 show sPl N (sTi N (a i).val x.val) (sTi N (a (n+i)).val y.val)=(x*a i+y*a (n+i)).val;rw[jP,eR,eR];unfold sTi;rw[YK (a i).val,YK (a (n+i)).val]
omit [NeZero N] in
theorem tW{n c:Nat}{G H:Nat->LB}{U:LB}{g h:Nat->OnP P}{u:OnP P}(f:0<n)(e:0<c)(b:c*n<=64)(hG:Gd N n c G g)(d:Gd N n c H h)(j:Tl N U u)(l:0<U.length)(m:U.length<=16):GOk N n c G H U:=
 ⟨f,e,b,λi k=>⟨(hG.tl i k).ok,hG.len i k⟩,λi k=>⟨(d.tl i k).ok,d.len i k⟩,j.ok,l,m⟩
omit [NeZero N] in
theorem Tl.point(C:Fld P)(O:Ord N)(k:∀r:EC.Pt P,On r->mul N r=none){l:LB}{X:OnP P}(b:Tl N l X)(d:0<l.length)(c:l.length<=512){w:XA}{v:XB}(h:Sm 0 w v l):
 cZ 33 #[v] w (rZ w λe w'=>e=pvl (wr X.1)):=by
 have:=h.point C O k d c b.lt b.pts;rw[b.sum]at this;exact this
def iCP:gZ 51 33:=gQ
def JC(C:Fld P)(O:Ord N)(k:∀r:EC.Pt P,On r->mul N r=none){Q:Nat->Prop}{m c:Nat}{G H:Nat->LB}{U:LB}{g h:Nat->OnP P}{u:OnP P}(s:0<m)(A:0<c)(n:c*m<=64)(hG:Gd N m c G g)(o:Gd N m c H h)(p:Tl N U u)(x:0<U.length)(y:U.length<=16)(a b:Nat->Fin N):
 ∃l,(∀(W:XA) (v va f:XB),GRq Q W v m G H U->SLq Q W va m (λi=>(a i).val)->SLq Q W f m (λi=>(b i).val)->cZ 143 #[v,va,f] W (rZ W λe w'=>Sm W.heap.size w' e l)) /\
  (∀(W:XA) (v:XB),Sm 0 W v l->cZ 33 #[v] W (rZ W λe w'=>e=pvl (wr ((aC C k).hd a b g h u m).1))):=by
 have w:=tW s A n hG o p x y;obtain⟨q,j⟩:=KX C k hG o p (d:=U.length) rfl a b;rw[<-kM]at q j;refine⟨_,λW v va f t z B=>GB O m c G H U w _ _ (λi _=>(a i).isLt) (λi _=>(b i).isLt) v va f W t z B,λW v hv=>q.point C O k (by rw[j];omega) (by rw[j];omega) hv⟩
end
end Go.Proofs.YtlofhpkoaljmeaaGreat
