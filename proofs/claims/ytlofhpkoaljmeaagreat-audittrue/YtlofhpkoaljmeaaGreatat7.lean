import Derived.Deep.AppendSrc
import Derived.Test.YtlofhpkoaljmeaaGreatat6
set_option linter.unusedVariables false
set_option linter.constructorNameAsVariable false
set_option linter.unusedSimpArgs false
set_option maxRecDepth 1000000
set_option maxHeartbeats 4000000
namespace Go.Proofs.YtlofhpkoaljmeaaGreat
open EC NT RG SP
open _root_.And renaming intro->YP
open _root_.Array renaming any_eq_true'->yAr,getD_eq_getD_getElem?->XI,getElem?_eq_getElem->X4,getElem?_eq_some_iff->XY,length_toList->XP,replicate->XL,replicate_succ->yBS,replicate_zero->yBR,setIfInBounds_comm->yCJ,toList_inj->yDx,toList_replicate->yBG
open _root_.Bool renaming and_eq_true->XO,and_true->yEc,false_or->yCQ,not_eq_true'->yDw,not_true->yEb,or_eq_true->Z1
open _root_.Go renaming Addr->YW,Calls->XH,FuncId->ZY,Oper->Yo,Program->YG,TypeId->Yd,Value->Xu,World->Xs,bodyPost_ret->XE,execOp->Yb,run_loadVar_mid->yAA,undef->Zp,wpList_load_mid->Yv,wpList_plain->ZH,wpList_store_mid->X8,wp_seq->Xy
open _root_.Go.Act renaming put->XK
open _root_.Go.ByteArray renaming toList_eq->yCP
open _root_.Go.Code renaming region->Zd
open _root_.Go.Fence renaming wide->yCH
open _root_.Go.Instr renaming box->Yl,buildSlice->Yr,indexAt->Yi,sliceAt->Zk
open _root_.Go.KeepsOthers renaming alloc->yD5,setCell->yCk
open _root_.Go.Next renaming value->ZN
open _root_.Go.Oper renaming semAt_some->yBM,upon_enter->ZI,wp->YV
open _root_.Go.Region renaming binds->YT,noSelect->yAo,ready->Yf
open _root_.Go.RowKit.Below renaming refl->XM
open _root_.Go.Sem renaming run_bind->XT
open _root_.Go.Value renaming agg->X6,int->YQ,ownBlock->Za,slice->yAe
open _root_.Go.World renaming cell?->YO,cell?_of_block->XW,frozen?->Zi,rangeAt->yBu,size_alloc->XF
open _root_.List renaming all_cons->yB5,all_eq_true->Yj,all_nil->yCq,all_toArray->yAJ,append_toArray->yB1,cons_append->Zx,drop->ZR,getElem?_eq_getElem->XJ,getElem?_eq_some_iff->XG,getElem?_map->Ys,getElem?_toArray->Ye,getElem_map->Z9,length_append->XC,length_cons->Yq,length_map->XV,length_nil->Zr,length_range->yAg,map_append->YU,mem_append->Y3,mem_cons->YX,mem_map->Yw,mem_of_getElem?->YK,mem_range->YZ,mem_singleton->YY,nil_append->ZE,nodup_append->yBz,not_mem_nil->X5,push_toArray->yCm,range->Yt,range_succ->yBe,replicate->YE,setIfInBounds_toArray->Xt,set_cons_succ->Xv,set_cons_zero->Xw,size_toArray->YD,take->ZQ
open _root_.Nat renaming le_of_ble_eq_true->Yy,le_refl->Xx,le_trans->XB,lt_of_lt_of_le->Xz,lt_or_ge->Zq,mod_eq_of_lt->XX,mod_lt->Y9,mul_add->yAY,mul_one->Z5,ne_of_gt->Zg,one_mul->ZU,one_pos->yEv,pow_le_pow_right->Y4,pow_pos->yAM,pow_succ->Zf,reduceAdd->YH,reduceSub->yC4,zero_add->XD,zero_le->Zh,zero_mod->yBw
open _root_.Option renaming isSome_iff_exists->YB,map_eq_some_iff->XA
open _root_.Or renaming inl->X9,inr->X0
open _root_.Prod renaming mk->Ze
open Go.Proofs.Tryz
open Go.RowKit Go.Sort Go.Deep
section
variable {N:Nat}
theorem QV(r:Nat)(L:Bs)(k:ByteArray)(d:Option YW)(g f:Nat)(b:List UInt8)(w:Xs)(c:k.size<=1048576)(i:Holds encB w r 0 L)(m:L.size=32)(n:PartOk w (.slice d g f) b):
 XH prog 134 #[jZ r,.string k,.slice d g f] w (Ret λe w'=>e=.tuple #[]/\SP.Only r 0 32 w w'/\Holds encB w' r 0 (vT L k.data.toList b)):=
 (B8 r L k d g f b w c (QN i) m n).mono λ_ _ ⟨j,l,o⟩=>⟨_,j,rfl,l,QM o⟩
def bgL(V:Bs)(n:Nat)(A S:Bs):Bs:=kE [102,105,114,115,116] [115,101,99,111,110,100] (vT (vT (newL [114,97,110,103,101]) [99,111,109,109,105,116] V.toList) [98,105,116,115] [bH n 1]) A S
structure BgI(w W:Xs)(k r:Nat)(p:Rp)(V:Bs)(y z:Nat)(L:Bs):Prop where
 bl:kZ w W
 r3:Row W k p.l
 r4:Row W (k+1) (aA V)
 r6:Row W (k+2) [jZ r]
 r7:Row W (k+3) (wn y)
 r8:Row W (k+4) (wn z)
 rk:w.heap.size=k/\k+5<=r
 lg:Holds encB W r 0 L
 ls:L.size=32
section
variable {w W W':Xs}{k r:Nat}{p:Rp}{V:Bs}{y z:Nat}{L L':Bs}
theorem BgI.lt(h:BgI w W k r p V y z L):r<W.heap.size:=Holds.lt h.lg (by rw[h.ls];decide)
theorem BgI.grow(h:BgI w W k r p V y z L)(b:kZ W W'):BgI w W' k r p V y z L:=
 ⟨h.bl.trans (b.mono h.bl.size),h.r3.below b,h.r4.below b,h.r6.below b,h.r7.below b,h.r8.below b,h.rk,Holds.below h.lg b h.lt,h.ls⟩
theorem BgI.say(h:BgI w W k r p V y z L)(b:SP.Only r 0 32 W W')(c:Holds encB W' r 0 L')(d:L'.size=32):BgI w W' k r p V y z L':=by
 have f:=h.rk.2;have e:=h.rk.1;exact⟨h.bl.trans (yC b h.bl.size oM),h.r3.only b oM,h.r4.only b oM,h.r6.only b oM,h.r7.only b oM,h.r8.only b oM,h.rk,c,d⟩
theorem BgI.put(h:BgI w W k r p V y z L)(c b:Nat)(j:Nat)(us:List Xu)(i:j<5)(f:Row (W.setCells (k+j) 0 us) (k+2) [jZ r])(d:Row (W.setCells (k+j) 0 us) (k+3) (wn c))(e:Row (W.setCells (k+j) 0 us) (k+4) (wn b))(l:2<=j):BgI w (W.setCells (k+j) 0 us) k r p V c b L:=by
 have m:=h.rk.2;have g:=h.rk.1;exact⟨RG.below_setCells oM _ _ _ h.bl,aP h.r3 oM,aP h.r4 oM,f,d,e,h.rk,eU h.lg oM,h.ls⟩
theorem BgI.p6(h:BgI w W k r p V y z L)(e:Hid (W.setCells (k+2) 0 [jZ r]=W')):BgI w W' k r p V y z L:=by
 rw[<-e.out];exact h.put y z 2 _ oM (h.r6.put rfl) (aP h.r7 oM) (aP h.r8 oM) oM
theorem BgI.p7(h:BgI w W k r p V y z L){b:Nat}(e:Hid (W.setCells (k+3) 0 (wn b)=W')):BgI w W' k r p V b z L:=by
 rw[<-e.out];exact h.put b z 3 _ oM (aP h.r6 oM) (h.r7.put rfl) (aP h.r8 oM) oM
theorem BgI.p8(h:BgI w W k r p V y z L){b:Nat}(e:Hid (W.setCells (k+4) 0 (wn b)=W')):BgI w W' k r p V y b L:=by
 rw[<-e.out];exact h.put y b 4 _ oM (aP h.r6 oM) (aP h.r7 oM) (h.r8.put rfl) oM
end
theorem Cq{P:YG}{w:Func}{tmps:Array Xu}{W:Xs}{k s e:Nat}{vs us m:List Xu}(t x i:Tmp)(T n c:Yd)(a:w.results=#[.cell t T,.cell x n,.cell i c])(h:Row W k vs)(y:Row W s us)(v:Row W e m)(B:tmps[t]? = some (jZ k))(o:tmps[x]? = some (jZ s))(l:tmps[i]? = some (jZ e))
 (r:(P.underlying T).map (·.isRow)=some true) (z:(P.info? T).map (·.size)=some vs.length) (f:(P.underlying n).map (·.isRow)=some true) (p:(P.info? n).map (·.size)=some us.length) (b:(P.underlying c).map (·.isRow)=some true) (j:(P.info? c).map (·.size)=some m.length):(results w tmps).run P W=.ok (.tuple #[.agg vs.toArray,.agg us.toArray,.agg m.toArray]) W:=by
 obtain⟨d,r,hd⟩:=XA.1 r;obtain⟨E,f,q⟩:=XA.1 f;obtain⟨u,b,g⟩:=XA.1 b;have C:=yAA (P:=P) W k 0 T vs d h.2.1 r hd z;have D:=yAA (P:=P) W s 0 n us E y.2.1 f q p;have A:=yAA (P:=P) W e 0 c m u v.2.1 b g j;unfold results;simp[a,B,o,l,C,D,A,asAddr]
theorem Qi(O:Ord N)(p:Rp)(hp:p.Ok)(V:Bs)(hV:V.size=33)(n:Nat)(hn:n<256)(w:Xs):
 XH prog 79 #[.agg p.l.toArray,pvl V,iZ n] w (rZ w λe w'=>∃r,e=.tuple #[lgV r,nv (chS N (bgL V n p.a p.s)),nv (chS N (aX (bgL V n p.a p.s)))]/\w.heap.size<=r/\Holds encB w' r 0 (aX (aX (bgL V n p.a p.s)))):=by
 obtain⟨L0,t⟩:=hE (newL [114,97,110,103,101]);obtain⟨L1,J⟩:=hE (vT L0 [99,111,109,109,105,116] V.toList);obtain⟨L2,B⟩:=hE (vT L1 [98,105,116,115] [bH n 1]);have e3:bgL V n p.a p.s=kE [102,105,114,115,116] [115,101,99,111,110,100] L2 p.a p.s:=by unfold bgL;rw[t.out,J.out,B.out]
 have s0:L0.size=32:=by rw[<-t.out];exact AD _
 have s1:L1.size=32:=by rw[<-J.out];exact lE _ _ _
 have s2:L2.size=32:=by rw[<-B.out];exact lE _ _ _
 obtain⟨L3,M⟩:=hE (kE [102,105,114,115,116] [115,101,99,111,110,100] L2 p.a p.s);obtain⟨U,a⟩:=hE (aX L3);obtain⟨L5,l⟩:=hE (aX U);have s4:U.size=32:=by rw[<-a.out];exact bD _ _
 have s5:L5.size=32:=by rw[<-l.out];exact bD _ _
 obtain⟨y,hy⟩:=hE (chS N L3);obtain⟨z,hz⟩:=hE (chS N U);rw[e3,M.out,a.out,l.out,hy.out,hz.out];have HA:Hid (∀(r:Nat) (W:Xs),Holds encB W r 0 L2->XH prog 135 #[lgV r,.string ⟨#[102,105,114,115,116]⟩,pvl p.a,.string ⟨#[115,101,99,111,110,100]⟩,pvl p.s] W (Ret λe w'=>SP.Only r 0 32 W w'/\Holds encB w' r 0 U/\e=nv y)):=λr W h=>by
  rw[<-hy.out,<-a.out,<-M.out];exact uE O r L2 p.a p.s ⟨#[102,105,114,115,116]⟩ ⟨#[115,101,99,111,110,100]⟩ dC dC hp.a hp.s W h s2
 have HC:Hid (∀(r:Nat) (W:Xs),Holds encB W r 0 U->XH prog 136 #[lgV r] W (Ret λe w'=>SP.Only r 0 32 W w'/\Holds encB w' r 0 L5/\e=nv z)):=λr W h=>by
  rw[<-hz.out,<-l.out];exact zE O r U W h s4
 have HN:Hid (∀W:Xs,XH prog 133 #[.string ⟨#[114,97,110,103,101]⟩] W (rZ W λe w'=>∃r,e=lgV r/\W.heap.size<=r/\r<w'.heap.size/\Holds encB w' r 0 L0)):=λW=>by
  rw[<-t.out];exact Iq ⟨#[114,97,110,103,101]⟩ W dC
 clear M a l hy hz t e3;obtain⟨k,hk⟩:=hE (w.heap.size);obtain⟨Y,s⟩:=hE (w.alloc (.cells p.l.toArray 153));obtain⟨w2,x⟩:=hE (Y.alloc (.cells (aA V).toArray 51));obtain⟨w3,i⟩:=hE (w2.alloc (.cells [.pointer none].toArray 159));obtain⟨w4,A⟩:=hE (w3.alloc (.cells (RG.z 4).toArray 44));obtain⟨w5,o⟩:=hE (w4.alloc (.cells (RG.z 4).toArray 44));have z1:Hid (Y.heap.size=k+1):=by rw[<-s.out,XF,hk.out];rfl
 have z2:Hid (w2.heap.size=k+2):=by rw[<-x.out,XF,z1.out];rfl
 have z3:Hid (w3.heap.size=k+3):=by rw[<-i.out,XF,z2.out];rfl
 have z4:Hid (w4.heap.size=k+4):=by rw[<-A.out,XF,z3.out];rfl
 have z5:Hid (w5.heap.size=k+5):=by rw[<-o.out,XF,z4.out];rfl
 have f1:=aM hk s;have f2:=aM z1 x;have f3:=aM z2 i;have f4:=aM z3 A;have f5:=aM z4 o;have H:=f4.1.trans (f5.1.mono f4.1.size);have K:=f3.1.trans (H.mono f3.1.size);have Q:=f2.1.trans (K.mono f2.1.size);have F:=mk6 (f1.1.trans (Q.mono f1.1.size)) (f1.2.below Q) (f2.2.below K) (f3.2.below H) (f4.2.below f5.1) f5.2;obtain⟨vp,h0⟩:=hE (X6 p.l.toArray);obtain⟨vV,h7⟩:=hE (pvl V);have B1:Hid ((Yl 153 vp).run prog w=.ok (jZ k) Y):=by rw[<-h0.out,<-s.out,<-hk.out];exact Mi hp w
 have B2:Hid ((Yl 51 vV).run prog Y=.ok (.pointer (some ⟨k+1,0,none⟩)) w2):=by rw[<-h7.out,<-x.out,<-z1.out];exact sM hV Y
 rw[h0.out,h7.out];have HP:=mk2 hp hV;clear f1 f2 f3 f4 f5 H K Q;go_enter func79,ntmps79;go_wp2_with (first|(refine aG (u:=vp) (v:=jZ k) (w':=Y) rfl _ (.tmp 0) rfl ?_ ?_ ?_;rfl;exact B1.out)|(refine aG (u:=vV) (v:=.pointer (some ⟨k+1,0,none⟩)) (w':=w2) rfl _ (.tmp 1) rfl ?_ ?_ ?_;rfl;exact B2.out)|(refine alR 6 z2 i ?_)|(refine alR 7 z3 A ?_)|(refine alR 8 z4 o ?_)|fail)
 refine(HN w5).mono ?_;rintro e w6 ⟨uu,rfl,b,r,rfl,I,he,c⟩;obtain⟨w7,T⟩:=hE (w6.setCells (k+2) 0 [jZ r]);have h5:=mk1 (F.2.2.2.1.below b).2.2;have K7:Hid (BgI w w7 k r p V 0 0 L0):=by
  rw[z5.out]at I;rw[<-T.out];have d:=hk.out;exact⟨RG.below_setCells oM _ _ _ (F.1.trans (b.mono F.1.size)),aP (F.2.1.below b) oM,aP (F.2.2.1.below b) oM,(F.2.2.2.1.below b).put rfl,aP (F.2.2.2.2.1.below b) oM,aP (F.2.2.2.2.2.below b) oM,⟨hk.out,I⟩,eU c oM,s0⟩
 clear F b I he c z1 z2 z3 z4 z5 s x i A o B1 B2 HN;unfold lgV;go_wp2_with (first|(refine stR 6 T (Hid.mk' rfl) h5.out iLg kR ?_)|fail)
 clear h5 T;refine AW.begin 4 4 ?_;refine AW.va 0 (.pointer (some ⟨k+2,0,none⟩)) ?_;refine AW.va 1 (.pointer (some ⟨k+2,0,none⟩)) ?_;refine AW.ce 2 uLp (λW q=>(K7.grow q).r6.2.1 0 _ rfl) ?_;refine AW.va 3 (.slice (some ⟨k+1,0,none⟩) 33 33) ?_;refine AW.fc (λq=>QV r L0 ⟨#[99,111,109,109,105,116]⟩ (some ⟨k+1,0,none⟩) 33 33 V.toList _ dC (K7.grow q).lg s0 (xQ HP.2 (K7.grow q).r4)) ?_;rintro e w8 q ⟨rfl,g,c⟩;rw[show(⟨#[99,111,109,109,105,116]⟩:ByteArray).data.toList=[99,111,109,109,105,116] from rfl,J.out]at c;have K8:=mk1 ((K7.grow q).say g c s1);clear K7 q g c;have c6:w8.cell? ⟨k+2,0,none⟩=some (jZ r):=K8.r6.2.1 0 _ rfl;have h8:∀W:Xs,(convert 3 5 (iZ n)).run prog W=.ok (.int .u8 (SP.ub (bH n 1))) W:=λW=>by
  have d:(n:Int)%256=SP.ub (bH n 1):=rT n;rw[<-d];rfl
 have HL:=mk1 (rfl:bH n 1=bH n 1);generalize bH n 1=D at B h8;obtain⟨w9,R⟩:=hE (w8.alloc (.cells #[.int .u8 (SP.ub D)] 5));obtain⟨k9,h1⟩:=hE (w8.heap.size);have h2:Hid ((Yr 23 1 #[(0,.int .u8 (SP.ub D))]).run prog w8=.ok (sZ k9 1 1) w9):=by rw[<-R.out,<-h1.out];show _=_;kernel_rfl
 have f9:Hid (kZ w8 w9/\Row w9 k9 [.int .u8 (SP.ub D)]):=by rw[<-R.out,<-h1.out];exact⟨aC _ _,row_new w8 [.int .u8 (SP.ub D)] 5⟩
 have K9:=mk2 (K8.grow f9.1) (show PartOk w9 (sZ k9 1 1) [D] from⟨_,k9,0,1,#[D],rfl,rfl,Xx _,(by show 1<=1099511627776;decide),X0 ⟨rfl,λj hj=>by
  obtain rfl:j=0:=by simp at hj;omega
  exact⟨f9.2.2.1 0 _ rfl,(f9.2.2.2 0 yEv).2⟩⟩⟩)
 go_wp2_with (first|(refine inR 20 (Yr 23 1 #[(0,.int .u8 (SP.ub D))]) h2.out ?_)|fail)
 refine(QV r L1 ⟨#[98,105,116,115]⟩ (some (aZ k9)) 1 1 [D] w9 dC K9.1.lg s1 K9.2).mono ?_;rintro e ha ⟨uu,rfl,rfl,g,c⟩;rw[show(⟨#[98,105,116,115]⟩:ByteArray).data.toList=[98,105,116,115] from rfl,B.out]at c;have KA:=mk1 (K9.1.say g c s2);clear K9 g c K8 f9 h2 R c6;obtain⟨vl,d⟩:=hE (lgV r);obtain⟨vA,hvA⟩:=hE (pvl p.a);obtain⟨vS,h6⟩:=hE (pvl p.s);have iA:(prog.info? 51).map (·.size)=some (aA p.a).length:=by rw[aB HP.1.a];exact iCP
 have iS:(prog.info? 51).map (·.size)=some (aA p.s).length:=by rw[aB HP.1.s];exact iCP
 have H7:=Rp.at7 HP.1 KA.r3.2.1;have S:=mk1 (HA r ha KA.lg);rw[d.out,hvA.out,h6.out]at S;go_wp2_with (first|(refine ldR 6 KA.r6.2.1 d uLg iLg ?_)|(refine ldR 23 H7.1 hvA uCP iA ?_)|(refine ldR 25 H7.2.1 h6 uCP iS ?_)|fail)
 refine S.mono ?_;clear S H7;rintro e hg ⟨uu,rfl,g,c,rfl⟩;have KB:=mk1 (KA.say g c s4);clear KA g c;obtain⟨Z,f⟩:=hE (hg.setCells (k+3) 0 (wn y));obtain⟨vy,m⟩:=hE (nv y);rw[m.out];go_wp2_with (first|(refine stR 7 f m KB.r7.2.2 i40 (aI y) ?_)|fail)
 have KC:=mk1 (KB.p7 f);clear KB f;refine AW.beg 6 6 ⟨λW=>∃z L,BgI w W k r p V y z L,λ_ _ q ⟨z,L,h⟩=>⟨z,L,h.grow q⟩,true⟩ ⟨_,_,KC.grow ⟨rfl,rfl,rfl,Xx _,λ_ _=>rfl⟩⟩ ?_;refine AW.ro 0 (λW ⟨_,_,h⟩=>h.r6.2.1) d uLg iLg ?_;refine AW.ro 1 (λW ⟨_,_,h⟩=>h.r7.2.1) m u40 i40 ?_;refine AW.ro 2 (λW ⟨_,_,h⟩=>h.r6.2.1) d uLg iLg ?_;have KD:=mk1 (KC.grow (W':=Z.drew) ⟨rfl,rfl,rfl,Xx _,λ_ _=>rfl⟩);have P:=mk1 (HC r Z.drew KD.lg);rw[d.out]at P;refine AW.cw 3 (λ_=>P.out) (λe w' _ h=>⟨_,_,KD.say h.1 h.2.1 s5⟩) ?_;rintro e hc ⟨g,c,rfl⟩;simp only[XK,Xt,Xv,Xw];have KE:=mk1 (KD.say g c s5);clear KD g c P;obtain⟨hi,E⟩:=hE (hc.setCells (k+2) 0 [jZ r]);obtain⟨h9,C⟩:=hE (hi.setCells (k+3) 0 (wn y));obtain⟨hl,G⟩:=hE (h9.setCells (k+4) 0 (wn z));have KF:=mk1 (KE.p6 E);have KG:=mk1 (KF.p7 C);have X:=mk1 (KG.p8 G);obtain⟨vz,h4⟩:=hE (nv z);rw[h4.out];refine AW.ss 4 d kR iLg E (λ_=>⟨KE.r6.2.2,_,_,KF.out⟩) ?_;refine AW.ss 5 m (aI y) i40 C (λ_=>⟨KF.r7.2.2,_,_,KG.out⟩) ?_;refine AW.fi (us:=wn z) h4 (aI z) i40 (λ_=>⟨KG.r8.2.2,?_⟩);rw[G.out];go_wp2_with fail
 refine XE (Cq 6 7 8 159 44 44 rfl X.r6 X.r7 X.r8 rfl rfl rfl uLg iLg u40 i40 u40 i40) rfl ?_;exact⟨_,rfl,X.bl,r,rfl,by have:=X.rk;omega,X.lg⟩
structure MdI(w W:Xs)(k r:Nat)(p:Rp)(y:Nat)(L:Bs):Prop where
 on:SP.Only r 0 32 w W
 r2:Row W k p.l
 r3:Row W (k+1) [jZ r]
 r4:Row W (k+2) (wn y)
 rk:w.heap.size=k/\r<k
 lg:Holds encB W r 0 L
 ls:L.size=32
section
variable {w W W':Xs}{k r:Nat}{p:Rp}{y:Nat}{L L':Bs}
theorem MdI.lt(h:MdI w W k r p y L):r<W.heap.size:=Holds.lt h.lg (by rw[h.ls];decide)
theorem MdI.grow(h:MdI w W k r p y L)(b:kZ W W'):MdI w W' k r p y L:=
 ⟨h.on.trans (SP.Only.of_below b rfl h.lt),h.r2.below b,h.r3.below b,h.r4.below b,h.rk,Holds.below h.lg b h.lt,h.ls⟩
theorem MdI.say(h:MdI w W k r p y L)(b:SP.Only r 0 32 W W')(d:Holds encB W' r 0 L')(c:L'.size=32):MdI w W' k r p y L':=by
 have:=h.rk;exact⟨h.on.trans b,h.r2.only b oM,h.r3.only b oM,h.r4.only b oM,h.rk,d,c⟩
theorem MdI.put(h:MdI w W k r p y L){b:Nat}(e:Hid (W.setCells (k+2) 0 (wn b)=W')):MdI w W' k r p b L:=by
 have:=h.rk;rw[<-e.out];exact⟨jN h.on h.rk.1 h.rk.2 oM,aP h.r2 oM,aP h.r3 oM,h.r4.put rfl,h.rk,eU h.lg oM,h.ls⟩
theorem Kx(u:p.Ok)(t:Holds encB w r 0 L)(s:L.size=32):∃k c d o,Hid (w.heap.size=k)/\Hid (d.heap.size=k+2)/\Hid (d.alloc (.cells (RG.z 4).toArray 44)=o)/\Hid ((Yl 153 (.agg p.l.toArray)).run prog w=.ok (jZ k) c)/\Hid ((Yl 159 (lgV r)).run prog c=.ok (.pointer (some ⟨k+1,0,none⟩)) d)/\Hid (MdI w o k r p 0 L):=by
 have m:=Holds.lt t (by rw[s];decide);have g:=aM (T:=153) (Hid.mk' (rfl:w.heap.size=_)) (Hid.mk' (rfl:w.alloc (.cells p.l.toArray 153)=_));have j:(w.alloc (.cells p.l.toArray 153)).heap.size=w.heap.size+1:=XF _ _;have q:=O1 r (w.alloc (.cells p.l.toArray 153));generalize l:w.alloc (.cells p.l.toArray 153)=c at g j q;have f2:=aM (T:=159) (z:=[jZ r]) (Hid.mk' j) (Hid.mk' rfl);have n:(c.alloc (.cells [jZ r].toArray 159)).heap.size=w.heap.size+2:=by rw[XF,j]
 rw[j]at q;have e:(Yl 159 (lgV r)).run prog c=.ok (.pointer (some ⟨w.heap.size+1,0,none⟩)) (c.alloc (.cells [jZ r].toArray 159)):=q;generalize c.alloc (.cells [jZ r].toArray 159)=d at f2 n e;have i:=aM (T:=44) (z:=RG.z 4) (Hid.mk' n) (Hid.mk' rfl);refine⟨_,c,d,_,rfl,n,rfl,?_,e,?_⟩
 ·rw[<-l];exact Mi u w
 generalize d.alloc (.cells (RG.z 4).toArray 44)=o at i;have f:=f2.1.trans (i.1.mono f2.1.size);have b:=g.1.trans (f.mono g.1.size);exact⟨SP.Only.of_below b rfl m,g.2.below f,f2.2.below i.1,i.2,⟨rfl,m⟩,Holds.below t b m,s⟩
end
def mdL(L C D:Bs):Bs:=kE [116,104,105,114,100] [102,111,117,114,116,104] L C D
theorem PN(O:Ord N)(p:Rp)(f:p.Ok)(r:Nat)(L:Bs)(w:Xs)(B:Holds encB w r 0 L)(y:L.size=32):
 XH prog 85 #[.agg p.l.toArray,lgV r] w (Ret λe w'=>SP.Only r 0 32 w w'/\Holds encB w' r 0 (aX (mdL L p.c p.d))/\e=nv (chS N (mdL L p.c p.d))):=by
 obtain⟨C,d⟩:=hE (mdL L p.c p.d);obtain⟨G,c⟩:=hE (aX C);obtain⟨x,hx⟩:=hE (chS N C);have s2:G.size=32:=by rw[<-c.out];exact bD _ _
 rw[d.out,c.out,hx.out];have F:Hid (∀(W:Xs),Holds encB W r 0 L->XH prog 135 #[lgV r,.string ⟨#[116,104,105,114,100]⟩,pvl p.c,.string ⟨#[102,111,117,114,116,104]⟩,pvl p.d] W (Ret λe w'=>SP.Only r 0 32 W w'/\Holds encB w' r 0 G/\e=nv x)):=λW h=>by
  rw[<-hx.out,<-c.out,<-d.out];exact uE O r L p.c p.d ⟨#[116,104,105,114,100]⟩ ⟨#[102,111,117,114,116,104]⟩ dC dC f.c f.d W h y
 clear d c hx;obtain⟨k,Q,H,K,Y,I,s,a,E,m⟩:=Kx f B y;obtain⟨P,i⟩:=hE (X6 p.l.toArray);obtain⟨vl,b⟩:=hE (lgV r);obtain⟨S,l⟩:=hE (pvl p.c);obtain⟨X,n⟩:=hE (pvl p.d);rw[i.out]at a;have o:=mk1 (F K m.lg);rw[b.out]at E;rw[b.out,l.out,n.out]at o;rw[i.out,b.out];have J:(prog.info? 51).map (·.size)=some (aA p.c).length:=by rw[aB f.c];exact iCP
 have M:(prog.info? 51).map (·.size)=some (aA p.d).length:=by rw[aB f.d];exact iCP
 have D:=mk1 (Rp.at7 f m.r2.2.1);clear F B;go_enter func85,ntmps85;go_wp2_with (first|(refine aG (u:=P) (v:=jZ k) (w':=Q) rfl _ (.tmp 0) rfl ?_ ?_ ?_;rfl;exact a.out)|(refine aG (u:=vl) (v:=.pointer (some ⟨k+1,0,none⟩)) (w':=H) rfl _ (.tmp 1) rfl ?_ ?_ ?_;rfl;exact E.out)|(refine alR 4 I s ?_)|(refine ldR 3 m.r3.2.1 b uLg iLg ?_)|(refine ldR 6 D.2.2.1 l uCP J ?_)|(refine ldR 8 D.2.2.2.1 n uCP M ?_)|fail)
 refine o.mono ?_;rintro e R ⟨T,rfl,z,t,rfl⟩;have A:=mk1 (m.say z t s2);clear o z t m;obtain⟨U,g⟩:=hE (R.setCells (k+2) 0 (wn x));have q:=mk1 (A.put g);obtain⟨V,j⟩:=hE (nv x);rw[j.out];go_wp2_with (first|(refine stR 4 g j A.r4.2.2 i40 (aI x) ?_)|fail)
 refine XE (aF 4 44 rfl q.r4 rfl u40 i40) rfl ?_;exact⟨_,rfl,q.on,q.lg,rfl⟩
theorem Va(L:Nat->Bs):iD L 3=(L 0).toList++((L 1).toList++(L 2).toList):=by simp[iD,yBe]
theorem Im{B n:Nat}{w:Xs}{v:Xu}{x:List UInt8}(h:w.ownsRow B 5 1 v n (x.map encB))(f:0<n)(l:n<=1000000):∃q c,v=.slice q n c/\PartOk w v x:=by
 have d:x.length=n:=by have:=h.1;rw[XV,Z5]at this;exact this
 rcases id h with⟨-,⟨rfl,f⟩|⟨g,cap,cur,rfl,r,i,o,p,s,m⟩⟩
 ·omega
 ·have hx:x.toArray.size=n:=by rw[YD];exact d
  refine⟨_,_,rfl,some (aZ g),g,0,cap,x.toArray,by rw[hx],rfl,oM,oM,X0 ⟨rfl,λj e=>?_⟩⟩;have k:j<x.length:=oM;have b:=h.cells (g:=g) rfl j (encB x[j]) (by rw[Ys,XJ k];rfl);rw[gU]at b;refine⟨by rw[b,getElem!_pos _ j e];simp;rfl,?_⟩;simp[Zi,i]
theorem Xe(g b k:Nat)(w:Xs):(Yr 27 3 #[(0,r32 g),(1,r32 b),(2,r32 k)]).run prog w=.ok (sZ w.heap.size 3 3) (w.alloc (.cells #[r32 g,r32 b,r32 k] 23)):=kR
def enB(u m t:Nat):List UInt8:=(bx u).toList++((bx m).toList++(bx t).toList)
def enL(L:Bs)(u m t:Nat):Bs:=vT L [115,117,109,115] (enB u m t)
theorem ElQ.el{Q:Nat->Prop}{m:Nat}{W:Xs}{x:Xu}{b:Bs}(h:ElQ Q m W x b):El m W x b:=by
 obtain⟨k,c,d,e,i,-,f,g⟩:=h;exact⟨k,c,d,e,i,f,g⟩
theorem P7(O:Ord N)(p:Rp)(hp:p.Ok)(hu:p.u<N)(hm:p.m<N)(ht:p.t<N)(r:Nat)(L:Bs)(w:Xs)(hL:Holds encB w r 0 L)(hl:L.size=32):
 XH prog 88 #[.agg p.l.toArray,lgV r] w (Ret λe w'=>SP.Only r 0 32 w w'/\Holds encB w' r 0 (aX (enL L p.u p.m p.t))/\e=nv (chS N (enL L p.u p.m p.t))):=by
 obtain⟨J,f⟩:=hE (enL L p.u p.m p.t);obtain⟨L2,o⟩:=hE (aX J);obtain⟨x,hx⟩:=hE (chS N J);have s1:J.size=32:=by rw[<-f.out];exact lE _ _ _
 have s2:L2.size=32:=by rw[<-o.out];exact bD _ _
 have HC:Hid (∀(W:Xs),Holds encB W r 0 J->XH prog 136 #[lgV r] W (Ret λe w'=>SP.Only r 0 32 W w'/\Holds encB w' r 0 L2/\e=nv x)):=λW h=>by
  rw[<-hx.out,<-o.out];exact zE O r J W h s1
 rw[f.out,o.out,hx.out];unfold enL enB at f;have c:=λ(a:Nat) (ha:a<N) (W:Xs)=>eI O ha W
 have b1:=λW=>c p.u hu W
 have b2:=λW=>c p.m hm W
 have b3:=λW=>c p.t ht W
 have sz:∀a:Nat,(bx a).size=32:=cU;have n:=mk3 (sz p.u) (sz p.m) (sz p.t);have HB:=mk3 b1 b2 b3;clear b1 b2 b3 c hu hm ht sz o hx;generalize bx p.u=s at *;generalize bx p.m=t at *;generalize bx p.t=q at *;obtain⟨vu,V⟩:=hE (nv p.u);obtain⟨vm,F⟩:=hE (nv p.m);obtain⟨vt,Q⟩:=hE (nv p.t);rw[V.out,F.out,Q.out]at HB;obtain⟨k,w1,w2,Z,hk,z2,h1,B1,B2,i⟩:=Kx hp hL hl;obtain⟨vp,G⟩:=hE (X6 p.l.toArray);obtain⟨vl,g⟩:=hE (lgV r);rw[G.out]at B1;rw[g.out]at B2;rw[G.out,g.out];clear hL;have HP:=mk1 hp;go_enter func88,ntmps88;go_wp2_with (first|(refine aG (u:=vp) (v:=jZ k) (w':=w1) rfl _ (.tmp 0) rfl ?_ ?_ ?_;rfl;exact B1.out)|(refine aG (u:=vl) (v:=.pointer (some ⟨k+1,0,none⟩)) (w':=w2) rfl _ (.tmp 1) rfl ?_ ?_ ?_;rfl;exact B2.out)|(refine alR 4 z2 h1 ?_)|fail)
 have n3:Hid (k+1≠r):=by have:=i.rk;show _≠_;omega
 have n2:Hid (k≠r):=by have:=i.rk;show _≠_;omega
 refine AW.beg 14 14 (Iv.only i.lt) (SP.Only.of_below (⟨rfl,rfl,rfl,Xx _,λ_ _=>rfl⟩:kZ Z Z.drew) rfl i.lt) ?_;refine AW.va 0 (.pointer (some ⟨k+1,0,none⟩)) ?_;refine AW.va 1 (.pointer (some ⟨k+1,0,none⟩)) ?_;refine AW.ce 2 uLp (λW b=>(i.r3.only b n3.out).2.1 0 _ rfl) ?_;refine AW.va 3 (oZ k 132) ?_;refine AW.ro 4 (λW b=>(Rp.at7 HP.out (i.r2.only b n2.out).2.1).2.2.2.2.1) V u40 i40 ?_;refine AW.va 6 (oZ k 136) ?_;refine AW.ro 7 (λW b=>(Rp.at7 HP.out (i.r2.only b n2.out).2.1).2.2.2.2.2.1) F u40 i40 ?_;refine AW.va 9 (oZ k 140) ?_;refine AW.ro 10 (λW b=>(Rp.at7 HP.out (i.r2.only b n2.out).2.1).2.2.2.2.2.2) Q u40 i40 ?_;refine AW.ca 5 (λ_=>HB.1 _) (λe w' h=>h.1) ?_;rintro e w4 ⟨m,U,A,rfl⟩;simp only[XK,Xt,Xv,Xw];refine AW.ca 8 (λ_=>HB.2.1 _) (λe w' h=>h.1) ?_;rintro e w5 ⟨z,P,C,rfl⟩;simp only[XK,Xt,Xv,Xw];refine AW.ca 11 (λ_=>HB.2.2 _) (λe w' h=>h.1) ?_;rintro e B ⟨y,H,D,rfl⟩;simp only[XK,Xt,Xv,Xw];have S:=aC B (.cells #[r32 A,r32 C,r32 D] 23);have Y:=row_new B [r32 A,r32 C,r32 D] 23;have d:=z.trans (y.mono z.size);have E1:=(U.keep (Kq.of_below d)).keep (Kq.of_below S);have E2:=(P.keep (Kq.of_below y)).keep (Kq.of_below S);have E3:=H.keep (Kq.of_below S);refine AW.ns 12 (Xe A C D B) S ?_;have l:=mk1 (Dc B.heap.size 3 3 (λj=>if j=0 then s else if j=1 then t else q) dC (λj hj=>by
  match j,hj with
  | 0,_=>show s.size<=10000;rw[n.1];decide
  | 1,_=>show t.size<=10000;rw[n.2.1];decide
  | 2,_=>show q.size<=10000;rw[n.2.2];decide) (B.alloc (.cells #[r32 A,r32 C,r32 D] 23)) Y.1 λj hj=>by
  match j,hj with
  | 0,_=>exact⟨r32 A,Y.2.1 0 _ rfl,by show El s.size _ _ s;rw[n.1];exact E1.el⟩
  | 1,_=>exact⟨r32 C,Y.2.1 1 _ rfl,by show El t.size _ _ t;rw[n.2.1];exact E2.el⟩
  | 2,_=>exact⟨r32 D,Y.2.1 2 _ rfl,by show El q.size _ _ q;rw[n.2.2];exact E3.el⟩)
 have h0:(iD (λj=>if j=0 then s else if j=1 then t else q) 3)=s.toList++(t.toList++q.toList):=Va _;rw[h0]at l;have h2:(s.toList++(t.toList++q.toList)).length=96:=by simp only[XC,XP,n.1,n.2.1,n.2.2]
 generalize s.toList++(t.toList++q.toList)=xx at *;rw[h2]at l;have R:=mk1 (((XM _ Z).drew.trans (m.trans (d.mono m.size))).trans (S.mono (XB m.size d.size)));clear U P H E1 E2 E3 Y m z y d;generalize B.alloc (.cells #[r32 A,r32 C,r32 D] 23)=w7 at *;refine AW.ca 13 (λ_=>l.out) (λe w' h=>h.1) ?_;rintro e w8 ⟨X,T⟩;simp only[XK,Xt,Xv,Xw];obtain⟨qa,qc,rfl,K⟩:=Im T dC dC;have K8:=mk1 (i.grow (R.trans (X.mono R.size)));refine AW.cw 14 (λ_=>QV r L ⟨#[115,117,109,115]⟩ qa 96 qc xx w8 dC K8.lg hl K) (λe w' hI h=>hI.trans h.2.1) ?_;rintro e w9 ⟨rfl,b,E⟩;simp only[XK,Xt,Xv,Xw];rw[show(⟨#[115,117,109,115]⟩:ByteArray).data.toList=[115,117,109,115] from rfl,f.out]at E;have K9:=mk1 (K8.say b E s1);clear b E T K l X K8;refine AW.dn λ_=>?_
 have HD:=mk1 (HC w9 K9.lg);rw[g.out]at HD;go_wp2_with (first|(refine ldR 3 K9.r3.2.1 g uLg iLg ?_)|fail)
 refine HD.mono ?_;rintro e wA ⟨uu,rfl,b,E,rfl⟩;have KA:=mk1 (K9.say b E s2);clear HD b E K9;obtain⟨wB,M⟩:=hE (wA.setCells (k+2) 0 (wn x));have KB:=mk1 (KA.put M);obtain⟨vx,I⟩:=hE (nv x);rw[I.out];go_wp2_with (first|(refine stR 4 M I KA.r4.2.2 i40 (aI x) ?_)|fail)
 refine XE (aF 4 44 rfl KB.r4 rfl u40 i40) rfl ?_;exact⟨_,rfl,KB.on,KB.lg,rfl⟩
end
section
variable {P:Nat}[NeZero P]{N:Nat}
theorem uAr:(prog.underlying 66).map (·.isRow)=some true:=kR
theorem iAr:(prog.info? 66).map (·.size)=some 11:=kR
theorem Vo(a b c d:Xu)(w:Xs):(Yl 64 (.agg #[a,b,c,d])).run prog w=.ok (jZ w.heap.size) (w.alloc (.cells #[a,b,c,d] 64)):=kR
def z11:List Xu:=YE 11 (.slice none 0 0)
structure RgT(Q:Nat->Prop)(W:Xs)(p:Rp)(a b c d e f g:Nat):Prop where
 a:ElQ Q 33 W (r33 a) p.a
 b:ElQ Q 33 W (r33 b) p.s
 c:ElQ Q 33 W (r33 c) p.c
 d:ElQ Q 33 W (r33 d) p.d
 e:ElQ Q 32 W (r32 e) (bx p.u)
 f:ElQ Q 32 W (r32 f) (bx p.m)
 g:ElQ Q 32 W (r32 g) (bx p.t)
theorem RgT.keep{Q:Nat->Prop}{W W':Xs}{p:Rp}{a b c d e f g:Nat}(h:RgT Q W p a b c d e f g)(k:Kq Q W W'):RgT Q W' p a b c d e f g:=⟨h.a.keep k,h.b.keep k,h.c.keep k,h.d.keep k,h.e.keep k,h.f.keep k,h.g.keep k⟩
theorem RgT.mono2{Q Q':Nat->Prop}{W:Xs}{p:Rp}{a b c d e f g:Nat}(h:RgT Q W p a b c d e f g)(k:∀g,g<W.heap.size->Q g->Q' g):RgT Q' W p a b c d e f g:=⟨h.a.mono2 k,h.b.mono2 k,h.c.mono2 k,h.d.mono2 k,h.e.mono2 k,h.f.mono2 k,h.g.mono2 k⟩
theorem QF(O:Ord N)(p:Rp)(U:p.Ok)(hu:p.u<N)(hm:p.m<N)(ht:p.t<N)(A n s r:Xu)(h1:A.oneCell'=true/\n.oneCell'=true/\s.oneCell'=true/\r.oneCell'=true)(w:Xs):
 XH prog 89 #[.agg p.l.toArray,.agg #[A,n,s,r]] w (rZ w λe w'=>∃a b c d u m t,e=.agg #[r33 a,r33 b,r33 c,r33 d,r32 u,r32 m,r32 t,A,n,s,r]/\RgT (w.heap.size<=·) w' p a b c d u m t):=by
 have D:=mk7 (λW=>eJ U.a W) (λW=>eJ U.s W) (λW=>eJ U.c W) (λW=>eJ U.d W) (λW=>eI O hu W) (λW=>eI O hm W) (λW=>eI O ht W);obtain⟨va,h8⟩:=hE (pvl p.a);obtain⟨vs,h0⟩:=hE (pvl p.s);obtain⟨vc,h7⟩:=hE (pvl p.c);obtain⟨vd,h4⟩:=hE (pvl p.d);obtain⟨vu,ha⟩:=hE (nv p.u);obtain⟨vm,Z⟩:=hE (nv p.m);obtain⟨vt,h5⟩:=hE (nv p.t);rw[h8.out,h0.out,h7.out,h4.out,ha.out,Z.out,h5.out]at D;have iP:∀ {b:Bs},b.size=33->(prog.info? 51).map (·.size)=some (aA b).length:=λh=>by rw[aB h];exact iCP
 obtain⟨k,hk⟩:=hE (w.heap.size);obtain⟨S,G⟩:=hE (w.alloc (.cells p.l.toArray 153));obtain⟨k3,H⟩:=hE (S.heap.size);obtain⟨w2,I⟩:=hE (S.alloc (.cells [A,n,s,r].toArray 64));obtain⟨k4,E⟩:=hE (w2.heap.size);obtain⟨C,h3⟩:=hE (w2.alloc (.cells z11.toArray 66));have F:=O2 hk G H I E h3;have hc:w.heap.size<=k4/\k4<C.heap.size:=⟨by rw[<-E.out];exact XB (aM hk G).1.size (aM H I).1.size,F.2.2.2.1⟩
 have i:=mk2 hc h1;obtain⟨vp,h2⟩:=hE (X6 p.l.toArray);obtain⟨vi,y⟩:=hE (X6 #[A,n,s,r]);have B1:Hid ((Yl 153 vp).run prog w=.ok (jZ k) S):=by rw[<-h2.out,<-G.out,<-hk.out];exact Mi U w
 have B2:Hid ((Yl 64 vi).run prog S=.ok (jZ k3) w2):=by rw[<-y.out,<-I.out,<-H.out];exact Vo _ _ _ _ S
 have HP:=mk1 U;rw[h2.out,y.out];clear hc h1;go_enter func89,ntmps89;go_wp2_with (first|(refine aG (u:=vp) (v:=jZ k) (w':=S) rfl _ (.tmp 0) rfl ?_ ?_ ?_;rfl;exact B1.out)|(refine aG (u:=vi) (v:=jZ k3) (w':=w2) rfl _ (.tmp 1) rfl ?_ ?_ ?_;rfl;exact B2.out)|(refine alR 4 E h3 ?_)|fail)
 have J:∀W,kZ C W->_:=λW f=>Rp.at7 HP.out (F.2.1.below f).2.1
 refine AW.begin 23 23 ?_;refine AW.va 0 (jZ k) ?_;refine AW.ro 1 (λW f=>(J W f).1) h8 uCP (iP HP.a) ?_;refine AW.va 3 (oZ k 33) ?_;refine AW.ro 4 (λW f=>(J W f).2.1) h0 uCP (iP HP.s) ?_;refine AW.va 6 (oZ k 66) ?_;refine AW.ro 7 (λW f=>(J W f).2.2.1) h7 uCP (iP HP.c) ?_;refine AW.va 9 (oZ k 99) ?_;refine AW.ro 10 (λW f=>(J W f).2.2.2.1) h4 uCP (iP HP.d) ?_;refine AW.va 12 (oZ k 132) ?_;refine AW.ro 13 (λW f=>(J W f).2.2.2.2.1) ha u40 i40 ?_;refine AW.va 15 (oZ k 136) ?_;refine AW.ro 16 (λW f=>(J W f).2.2.2.2.2.1) Z u40 i40 ?_;refine AW.va 18 (oZ k 140) ?_;refine AW.ro 19 (λW f=>(J W f).2.2.2.2.2.2) h5 u40 i40 ?_;refine AW.ro 21 (λW f=>(F.2.2.1.below f).2.1) y Nc KU ?_;refine AW.ca 2 (λ_=>D.1 _) (λe w' h=>h.1) ?_;rintro e w4 ⟨h6,E1,K,rfl⟩;simp only[XK,Xt,Xv,Xw];refine AW.ca 5 (λ_=>D.2.1 _) (λe w' h=>h.1) ?_;rintro e w5 ⟨o,E2,P,rfl⟩;simp only[XK,Xt,Xv,Xw];refine AW.ca 8 (λ_=>D.2.2.1 _) (λe w' h=>h.1) ?_;rintro e w6 ⟨j,E3,Q,rfl⟩;simp only[XK,Xt,Xv,Xw];refine AW.ca 11 (λ_=>D.2.2.2.1 _) (λe w' h=>h.1) ?_;rintro e w7 ⟨x,E4,R,rfl⟩;simp only[XK,Xt,Xv,Xw];refine AW.ca 14 (λ_=>D.2.2.2.2.1 _) (λe w' h=>h.1) ?_;rintro e w8 ⟨B,E5,X,rfl⟩;simp only[XK,Xt,Xv,Xw];refine AW.ca 17 (λ_=>D.2.2.2.2.2.1 _) (λe w' h=>h.1) ?_;rintro e w9 ⟨z,E6,Y,rfl⟩;simp only[XK,Xt,Xv,Xw];refine AW.ca 20 (λ_=>D.2.2.2.2.2.2 _) (λe w' h=>h.1) ?_;rintro e L ⟨h9,E7,V,rfl⟩;simp only[XK,Xt,Xv,Xw];rw[<-y.out];refine AW.nx 22 (.agg #[r33 K,r33 P,r33 Q,r33 R,r32 X,r32 Y,r32 V,A,n,s,r]) ?_;have b9:=h9;have b8:=z.trans (b9.mono z.size);have b7:=B.trans (b8.mono B.size);have b6:=x.trans (b7.mono x.size);have b5:=j.trans (b6.mono j.size);have b4:=o.trans (b5.mono o.size);have s3:C.heap.size<=w4.heap.size:=h6.size;have q:∀ {W:Xs}{m:Nat}{v:Xu}{b:Bs},C.heap.size<=W.heap.size->ElQ (W.heap.size<=·) m L v b->ElQ (C.heap.size<=·) m L v b:=λhW h=>h.mono2 λg _ M=>XB hW M
 have t5:=XB s3 o.size;have t6:=XB t5 j.size;have t7:=XB t6 x.size;have t8:=XB t7 B.size;have t9:=XB t8 z.size;have T:Hid (RgT (C.heap.size<=·) L p K P Q R X Y V):=⟨(E1.keep (Kq.of_below b4)).mono2 λg _ M=>M,q s3 (E2.keep (Kq.of_below b5)),q t5 (E3.keep (Kq.of_below b6)),q t6 (E4.keep (Kq.of_below b7)),q t7 (E5.keep (Kq.of_below b8)),q t8 (E6.keep (Kq.of_below b9)),q t9 E7⟩
 clear q E1 E2 E3 E4 E5 E6 E7 b4 b5 b6 b7 b8 b9 h6 o j x B z h9 s3 t5 t6 t7 t8 t9;refine AW.fi (us:=[r33 K,r33 P,r33 Q,r33 R,r32 X,r32 Y,r32 V,A,n,s,r]) (Hid.mk' rfl) (by simp only[yAJ,yB5,yCq,i.2.1,i.2.2.1,i.2.2.2.1,i.2.2.2.2,show ∀g,(r33 g).oneCell'=true from λ_=>rfl,show ∀g,(r32 g).oneCell'=true from λ_=>rfl,yEc]) iAr (λf=>?_);obtain⟨wB,l⟩:=hE (L.setCells k4 0 [r33 K,r33 P,r33 Q,r33 R,r32 X,r32 Y,r32 V,A,n,s,r]);have r4:=F.2.2.2.below f;have KE:Hid (L.there k4 0 11/\Row wB k4 [r33 K,r33 P,r33 Q,r33 R,r32 X,r32 Y,r32 V,A,n,s,r]/\kZ w wB/\RgT (w.heap.size<=·) wB p K P Q R X Y V):=by
  have kq:Kq (C.heap.size<=·) L wB:=by rw[<-l.out];exact Kq.set λg M=>by have:=i.1;omega
  refine⟨r4.2.2,by rw[<-l.out];exact r4.put rfl,by rw[<-l.out];exact RG.below_setCells i.1.1 _ _ _ (F.1.trans (f.mono F.1.size)),(T.keep kq).mono2 λg _ M=>XB F.1.size M⟩
 rw[l.out];refine⟨KE.1,?_⟩;go_wp2_with fail
 refine XE (aF 4 66 rfl KE.2.1 rfl uAr iAr) rfl ?_;exact⟨_,rfl,KE.2.2.1,_,_,_,_,_,_,_,rfl,KE.2.2.2⟩
end
section
variable {N:Nat}
structure Pq where
 p:(Nat->Prop)->Xs->Prop
 kp:∀Q W W',Kq Q W W'->p Q W->p Q W'
 mo:∀Q Q' W,(∀g,g<W.heap.size->Q g->Q' g)->p Q W->p Q' W
abbrev pqS(v:Xu)(n:Nat)(a:Nat->Nat):Pq:=⟨λQ W=>SLq Q W v n a,λ_ _ _ k h=>h.keep k,λ_ _ _ m h=>h.mono2 m⟩
abbrev pqG(v:Xu)(n:Nat)(G H:Nat->List (Nat × Bs))(U:List (Nat × Bs)):Pq:=⟨λQ W=>GRq Q W v n G H U,λ_ _ _ k h=>h.keep k,λ_ _ _ m h=>h.mono2 m⟩
abbrev pqM(v:Xu)(l:List (Nat × Bs)):Pq:=⟨λQ W=>SmQ Q W v l,λ_ _ _ k h=>h.keep k,λ_ _ _ m h=>h.mono2 m⟩
def Nk(rs:List (Nat × List Xu))(g:Nat):Prop:=g ∉ rs.map (·.1)
structure Mp(w W:Xs)(rs:List (Nat × List Xu))(S:List Pq):Prop where
 bl:kZ w W
 rw:∀x∈rs,w.heap.size<=x.1/\Row W x.1 x.2
 nd:(rs.map (·.1)).Nodup
 ob:∀s∈S,s.p (Nk rs) W
namespace Mp
variable {w W W':Xs}{rs rs':List (Nat × List Xu)}{S S':List Pq}{k r i:Nat}{c c':List Xu}{L L':Bs}
theorem start(w:Xs):Mp w w [] []:=⟨XM _ _,λ_ h=>(X5 h).elim,List.nodup_nil,λ_ h=>(X5 h).elim⟩
theorem grow(h:Mp w W rs S)(k:kZ W W'):Mp w W' rs S:=⟨h.bl.trans (k.mono h.bl.size),λx hx=>⟨(h.rw x hx).1,(h.rw x hx).2.below k⟩,h.nd,λs b=>s.kp _ _ _ (Kq.of_below k) (h.ob s b)⟩
theorem drew(h:Mp w W rs S):Mp w W.drew rs S:=h.grow ⟨rfl,rfl,rfl,Xx _,λ_ _=>rfl⟩
theorem lt(h:Mp w W rs S){g:Nat}(k:g∈rs.map (·.1)):w.heap.size<=g/\g<W.heap.size:=by
 obtain⟨x,hx,rfl⟩:=Yw.1 k;exact⟨(h.rw x hx).1,(h.rw x hx).2.1⟩
theorem nk(h:Mp w W rs S)(g:Nat)(k:W.heap.size<=g):Nk rs g:=λe=>by have:=(h.lt e).2;omega
theorem at_(h:Mp w W rs S)(i:Nat)(b:rs[i]? = some (k,c):=by rfl):Row W k c:=(h.rw _ (YK b)).2
theorem key(b:rs[i]? = some (k,c)):k∈rs.map (·.1):=Yw.2 ⟨_,YK b,rfl⟩
theorem get(h:Mp w W rs S)(j:Nat){s:Pq}(k:S[j]? = some s:=by rfl):s.p (Nk rs) W:=h.ob _ (YK k)
theorem has(h:Mp w W rs S)(s:Pq)(k:s.p (Nk rs) W)(e:S++[s]=S':=by(simp only[Zx,ZE])<;>rfl):Mp w W rs S':=e ▸ ⟨h.bl,h.rw,h.nd,λx hx=>by
 rcases Y3.1 hx with hx|hx
 ·exact h.ob x hx
 ·rw[YY.1 hx];exact k⟩
theorem gets(h:Mp w W rs S)(c:kZ W W')(s:Pq)(k:s.p (W.heap.size<=·) W')(e:S++[s]=S':=by(simp only[Zx,ZE])<;>rfl):Mp w W' rs S':=(h.grow c).has s (s.mo _ _ _ (λg _ b=>h.nk g b) k) e
theorem q(_:Mp w W rs S):∃Q,Hid (Nk rs=Q):=⟨_,rfl⟩
theorem vW{Q:Nat->Prop}(h:Mp w W rs S)(b:Hid (Nk rs=Q))(j:Nat){s:Pq}(k:S[j]? = some s:=by rfl):s.p Q W:=by rw[<-b.out];exact h.get j k
theorem nkq{Q:Nat->Prop}(h:Mp w W rs S)(k:Hid (Nk rs=Q))(g:Nat)(b:W.heap.size<=g):Q g:=by rw[<-k.out];exact h.nk g b
theorem Oy{Q:Nat->Prop}(h:Mp w W rs S)(b:Hid (Nk rs=Q))(s:Pq)(k:s.p Q W)(e:S++[s]=S':=by(simp only[Zx,ZE])<;>rfl):Mp w W rs S':=h.has s (by rw[b.out];exact k) e
theorem ne{Q:Nat->Prop}(_:Mp w W rs S)(f:Hid (Nk rs=Q))(i:Nat)(d:rs[i]? = some (k,c):=by rfl)(g:Nat)(b:Q g):g≠k:=λe=>by
 rw[<-f.out]at b;exact b (by rw[e];exact Yw.2 ⟨_,YK d,rfl⟩)
theorem add(h:Mp w W rs S)(f:kZ W W')(m:Row W' k c)(j:W.heap.size<=k)(e:rs++[(k,c)]=rs':=by(simp only[Zx,ZE])<;>rfl):Mp w W' rs' S:=by
 subst e;have i:=h.grow f;refine⟨i.bl,λx hx=>?_,?_,λs l=>?_⟩
 ·rcases Y3.1 hx with hx|hx
  ·exact i.rw x hx
  ·rw[YY.1 hx];exact⟨XB h.bl.size j,m⟩
 ·rw[YU,yBz];refine⟨h.nd,by simp,λa n b d e=>?_⟩;have o:=(h.lt n).2;simp at d;omega
 ·refine s.kp _ _ _ (Kq.of_below f) (s.mo _ _ _ (λg n d e=>?_) (h.ob s l));rw[YU,Y3]at e;rcases e with e|e
  ·exact d e
  ·simp at e;omega
theorem adds(h:Mp w W rs S)(i:kZ W W')(ns:List (Nat × List Xu))(k:(ns.map (·.1)).Nodup)(c:∀x∈ns,W.heap.size<=x.1/\Row W' x.1 x.2)(e:rs++ns=rs':=by(simp only[Zx,ZE])<;>rfl):Mp w W' rs' S:=by
 subst e;have j:=h.grow i;have l:∀g,g∈ns.map (·.1)->W.heap.size<=g:=λg f=>by
  obtain⟨x,hx,rfl⟩:=Yw.1 f;exact(c x hx).1
 refine⟨j.bl,λx hx=>?_,?_,λs n=>?_⟩
 ·rcases Y3.1 hx with hx|hx
  ·exact j.rw x hx
  ·exact⟨XB h.bl.size (c x hx).1,(c x hx).2⟩
 ·rw[YU,yBz];refine⟨h.nd,k,λa m b d e=>?_⟩;have o:=(h.lt m).2;have p:=l b d;omega
 ·refine s.kp _ _ _ (Kq.of_below i) (s.mo _ _ _ (λg f k e=>?_) (h.ob s n));rw[YU,Y3]at e;rcases e with e|e
  ·exact k e
  ·have:=l g e;omega
theorem new{T:Yd}(h:Mp w W rs S)(b:Hid (W.heap.size=k))(d:Hid (W.alloc (.cells c.toArray T)=W'))(e:rs++[(k,c)]=rs':=by(simp only[Zx,ZE])<;>rfl):Mp w W' rs' S:=by
 have f:=aM b d;exact h.add f.1 f.2 (Nat.le_of_eq b.out) e
theorem keys(b:rs[i]? = some (k,c)):(rs.set i (k,c')).map (·.1)=rs.map (·.1):=by
 rw[List.map_set];refine List.ext_getElem? λj=>?_
 rw[List.getElem?_set];have d:=(XG.1 b).1;split
 ·rename_i e
  subst e;rw[yES (by simpa using d),Ys,b];rfl
 ·rfl
theorem Uo(b:rs[i]? = some (k,c)):Nk (rs.set i (k,c'))=Nk rs:=funext λg=>by unfold Nk;rw[keys b]
theorem turn(h:Mp w W rs S)(d:rs[i]? = some (k,c))(y:kZ w W')(u:W.heap.size<=W'.heap.size)(ho:∀g,g≠k->g<W.heap.size->W'.heap[g]? = W.heap[g]?)(a:Row W' k c'):Mp w W' (rs.set i (k,c')) S:=by
 refine⟨y,λx hx=>?_,by rw[keys d];exact h.nd,λs m=>?_⟩
 ·have B:=hx;obtain⟨j,l,e⟩:=List.mem_iff_getElem.1 hx;rw[List.length_set]at l;rw[List.getElem_set]at e;by_cases b:i=j
  ·rw[yES b]at e;rw[<-e];exact⟨(h.lt (key d)).1,a⟩
  ·rw[yET b]at e;have z:rs[j]∈rs:=List.getElem_mem l;have hh:=h.rw _ z;rw[<-e];have n:rs[j].1≠k:=λe'=>by
    have f:=(XG.1 d)
    obtain⟨o,p⟩:=f;have v:=List.pairwise_iff_getElem.1 h.nd;have r:(rs.map (·.1))[i]'(by simpa using o)=k:=by rw[Z9,p]
    have t:(rs.map (·.1))[j]'(by simpa using l)=k:=by rw[Z9];exact e'
    rcases Zq i j with q|A
    ·exact v i j _ _ q (r.trans t.symm)
    ·exact v j i _ _ oM (t.trans r.symm)
   exact⟨hh.1,aS hh.2 u (ho _ n hh.2.1)⟩
 ·rw[Uo d];exact s.kp _ _ _ ⟨u,λg b f=>ho g (λe=>b (by rw[e];exact key d)) f⟩ (h.ob s m)
theorem upd{o:Nat}{us:List Xu}(h:Mp w W rs S)(i:Nat)(b:Hid (W.setCells k o us=W'))(f:Row (W.setCells k o us) k c')(d:rs[i]? = some (k,c):=by rfl)(e:rs.set i (k,c')=rs':=by(simp only[Xv,Xw])<;>rfl):Mp w W' rs' S:=by
 subst e;rw[b.out]at f;refine h.turn d ?_ ?_ (λg j _=>?_) f
 ·rw[<-b.out];exact RG.below_setCells (h.lt (key d)).1 _ _ _ h.bl
 ·rw[<-b.out,setCells_size];exact Xx _
 ·rw[<-b.out];exact aE k us o W g j
theorem put(h:Mp w W rs S)(i:Nat)(f:Hid (W.setCells k 0 c'=W'))(b:rs[i]? = some (k,c):=by rfl)(d:c'.length=c.length:=by rfl)(e:rs.set i (k,c')=rs':=by(simp only[Xv,Xw])<;>rfl):Mp w W' rs' S:=h.upd i f ((h.at_ i b).put d) b e
theorem th(h:Mp w W rs S)(i:Nat)(d:rs[i]? = some (k,c):=by rfl)(b:c'.length=c.length:=by rfl):W.there k 0 c'.length:=by rw[b];exact(h.at_ i d).2.2
theorem say(h:Mp w W rs S)(i:Nat)(k:SP.Only r 0 32 W W')(d:Holds encB W' r 0 L')(b:rs[i]? = some (r,aA L):=by rfl)(e:rs.set i (r,aA L')=rs':=by(simp only[Xv,Xw])<;>rfl):Mp w W' rs' S:=by
 subst e;have c:=h.lt (key b);refine h.turn b (h.bl.trans (yC k h.bl.size c.1)) k.size (λg f j=>k.block g j f) (qP d (Xz c.2 k.size))
theorem log(h:Mp w W rs S)(i:Nat)(k:rs[i]? = some (r,aA L):=by rfl):Holds encB W r 0 L:=row_holds (h.at_ i k)
theorem wk(h:Mp w W rs S)(i:Nat)(b:rs[i]? = some (k,c):=by rfl):∃c,Mp w W (rs.set i (k,c)) S:=⟨c,by
 obtain⟨e,d⟩:=XG.1 b;rw[<-d,List.set_getElem_self];exact h⟩
end Mp
abbrev Iv.mx(w:Xs)(rs:List (Nat × List Xu))(S:List Pq)(i k:Nat)(b:Bool):Iv:=⟨λW=>∃c,Mp w W (rs.set i (k,c)) S,λ_ _ d ⟨c,h⟩=>⟨c,h.grow d⟩,b⟩
abbrev Iv.mp(w:Xs)(rs:List (Nat × List Xu))(S:List Pq)(b:Bool):Iv:=⟨λW=>Mp w W rs S,λ_ _ k h=>h.grow k,b⟩
end
namespace SPA
variable {N:Nat}[NeZero N]{M:Type}
namespace Md
variable (D:Md N M)
theorem cancel(a b c:M):D.ad a b=D.ad a c↔b=c:=by
 constructor
 ·intro h;have k:D.ad (D.ac (-1) a) (D.ad a b)=D.ad (D.ac (-1) a) (D.ad a c):=by rw[h]
  rw[<-D.assoc,<-D.assoc,D.comm _ a,D.Bu,D.zadd,D.zadd]at k;exact k
 ·rintro rfl;rfl
theorem JG(Y W T:Nat->(Fin N))(z:(Fin N))(k:Nat->M)(n:Nat)(h:∀i,i<n->Y i*W i=1):
 D.dt (λi=>z*Y i+z*z*T i) (λi=>D.ac (W i) (k i)) n=D.dt (λi=>z+z*z*(T i*W i)) k n:=
 D.yU n λi b=>by
  have c:=h i b;rw[D.acAc,show(z*Y i+z*z*T i)*W i=z+z*z*(T i*W i) by
   generalize Y i=y,W i=w,T i=t at *;grind]
theorem H5(H G:M)(t d tau:(Fin N))(A B E:M):D.cm H G (t-d) tau=D.ad (D.ad A B) E↔D.cm H G t tau=D.ad (D.ad A (D.ac d H)) (D.ad B E):=by
 rw[<-D.cancel (D.ac d H)];have k:D.ad (D.ac d H) (D.cm H G (t-d) tau)=D.cm H G t tau:=by
  unfold cm;rw[<-D.assoc,<-D.adAc,show d+(t-d)=t by grind]
 have b:D.ad (D.ac d H) (D.ad (D.ad A B) E)=D.ad (D.ad A (D.ac d H)) (D.ad B E):=by ac_rfl
 rw[k,b]
theorem Ie(A X G:M)(mu x t w:(Fin N))(L K U:M):
 D.ad (D.ad (D.ad (D.ad A (D.ac x X)) (D.ac (-1) (D.ac mu G))) (D.ad L K)) (D.ac t (D.ac w U))=D.ad (D.ad (D.ad (D.ad A (D.ac x X)) (D.ac (-mu) G)) (D.ad L K)) (D.ac (t*w) U):=by
 rw[D.acAc,D.acAc,show(-1:(Fin N))*mu = -mu by grind]
end Md
end SPA
section
open SPA
variable {N:Nat}[NeZero N]{M:Type}
structure Rv(N:Nat) where
 v:Nat
 n:Nat
 s:Nat->Fin N
 q:Nat->Fin N
 al:Fin N
 rho:Fin N
 t1:Fin N
 t2:Fin N
 k:Fin N
 y:Fin N
 z:Fin N
 x:Fin N
 w:Fin N
namespace Rv
variable (R:Rv N)
def l(i:Nat):Fin N:=btF N R.v i
def m(i:Nat):Fin N:=btF N R.v i-1
def a0(i:Nat):Fin N:=R.l i+-R.z
def sh(i:Nat):Fin N:=R.z*pwF R.y i+R.z*R.z*pwF (ofF N 2) i
def b0(i:Nat):Fin N:=R.m i*pwF R.y i+R.sh i
def b1(i:Nat):Fin N:=R.q i*pwF R.y i
def a(i:Nat):Fin N:=R.a0 i+R.s i*R.x
def b(i:Nat):Fin N:=R.b0 i+R.b1 i*R.x
def c1:Fin N:=Md.pr R.a0 R.b1 R.n+Md.pr R.s R.b0 R.n
def c2:Fin N:=Md.pr R.s R.b1 R.n
def t:Fin N:=Md.pr R.a R.b R.n
def tau:Fin N:=R.t1*R.x+R.t2*R.x*R.x+R.z*R.z*R.k
def mu:Fin N:=R.al+R.rho*R.x
def d:Fin N:=(R.z-R.z*R.z)*Md.pr (λ_=>1) (pwF R.y) R.n-R.z*R.z*R.z*ofF N (2^R.n-1)
variable (D:Md N M) (G H U:M) (g k:Nat->M)
def pA:M:=D.ad (D.ac R.al G) (D.ad (D.dt R.l g R.n) (D.dt R.m k R.n))
def pS:M:=D.ad (D.ac R.rho G) (D.ad (D.dt R.s g R.n) (D.dt R.q k R.n))
def pV:M:=D.cm H G (ofF N R.v) R.k
def p1:M:=D.cm H G R.c1 R.t1
def p2:M:=D.cm H G R.c2 R.t2
def hh(i:Nat):M:=D.ac (pwF (ivF R.y) i) (k i)
def rg:Md.Rg (Fin N):=rgF R.v R.s R.q R.y (ivF R.y) R.z R.x
theorem U2:R.rg.a0=R.a0:=funext λi=>by
 show R.l i-R.z=R.l i+-R.z;grind
theorem U1:R.rg.b0=R.b0:=funext λi=>by
 show pwF R.y i*(R.m i+R.z)+R.z*R.z*pwF (ofF N 2) i=R.m i*pwF R.y i+(R.z*pwF R.y i+R.z*R.z*pwF (ofF N 2) i);grind
theorem SG:R.rg.b1=R.b1:=funext λi=>by
 show pwF R.y i*R.q i=R.q i*pwF R.y i;grind
theorem e_a:R.rg.a=R.a:=funext λi=>by
 show R.rg.a0 i+_=_;rw[U2];rfl
theorem e_b:R.rg.b=R.b:=funext λi=>by
 show R.rg.b0 i+R.rg.b1 i*_=_;rw[U1,SG];rfl
theorem J3(b:Nat->Fin N):∀n,Md.pr (λ_=>1) b n=(SPA.own N).sm b n
 | 0=>rfl
 | n+1=>by
  show Md.pr (λ_=>1) b n+1*b n=(SPA.own N).sm b n+b n;rw[J3 b n];grind
theorem e_d:R.rg.d R.n=R.d:=by
 unfold d;rw[J3];exact T0 _ _ _ _ _ _ _ _
theorem sums(b:IsP N)(c:R.y.val≠0)(hv:R.v<2^R.n):D.cm H G (R.t-R.d) R.tau=D.ad (D.ad (D.ac (R.z*R.z) (R.pV D G H)) (D.ac R.x (R.p1 D G H))) (D.ac (R.x*R.x) (R.p2 D G H)):=by
 rw[D.H5];have h:=D.DT R.rg R.n (JS R.v R.s R.q R.z R.x (tX b R.y c) R.n) H G R.k R.t1 R.t2;have ev:R.rg.v R.n=ofF N R.v:=TZ _ _ _ _ _ _ _ _ hv;have k:R.rg.t1 R.n=R.c1:=by
  show Md.pr R.rg.a0 R.rg.b1 R.n+Md.pr R.s R.rg.b0 R.n=_;rw[U2,SG,U1];rfl
 have e:R.rg.t2 R.n=R.c2:=by
  show Md.pr R.s R.rg.b1 R.n=_;rw[SG];rfl
 rw[ev,k,e,e_d,e_a,e_b]at h;have d:R.t1*R.x+R.t2*(R.x*R.x)+R.z*R.z*R.k=R.tau:=by
  show _=R.t1*R.x+R.t2*R.x*R.x+R.z*R.z*R.k;grind
 rw[show R.rg.x=R.x from rfl,show R.rg.z=R.z from rfl,d]at h;exact h
theorem point(b:IsP N)(c:R.y.val≠0):
 D.ad (D.ad (D.ad (D.ad (R.pA D G g k) (D.ac R.x (R.pS D G g k))) (D.ac (-1) (D.ac R.mu G))) (D.ad (D.dt (λ_=>-R.z) g R.n) (D.dt R.sh (R.hh D k) R.n))) (D.ac R.t (D.ac R.w U))=D.hd R.a R.b g (R.hh D k) (D.ac R.w U) R.n:=by
 rw[D.Ie];have h:=D.Cy R.rg R.n (JS R.v R.s R.q R.z R.x (tX b R.y c) R.n) G g k U R.al R.rho R.w;have d:=D.JG (pwF R.y) (pwF (ivF R.y)) (pwF (ofF N 2)) R.z k R.n λi _=>Ec (tX b R.y c) i
 rw[e_a,e_b]at h;rw[show D.dt R.sh (R.hh D k) R.n=_ from d];exact h
end Rv
end
section
open Go.Shelf
section
variable {P:YG}{ops:Array Yo}{rest:List Yo}{op:Yo}{a:Act}{w w':Xs}{v:Xu}{Q:Exit->Act->Xs->Prop}
theorem wpList_build(b:op.guard=none)(d:Yd)(n:Nat)(k:Array (Nat × Operand))(_:op.op=.buildSlice d n k)(e:(Yb a.eval op).run P w=.ok (.value v) w')(h:wpList P ops Q rest (a.put op.dst v) w'):wpList P ops Q (op :: rest) a w:=
 ZH b λK c=>by
  unfold YV;rw[e];exact c _ _ h
end
variable {P:Nat}[NeZero P]
def iO:ByteArray:=⟨#[118,97,108,117,101]⟩
noncomputable def cmt (P:Nat) [NeZero P] (n m:Nat):EC.Pt P:=tot (λj=>if j=0 then .some (hpt P iO []) else gG P) 2 (λj=>if j=0 then(n:Int) else(m:Int))
def Dy(P:Nat)[NeZero P](N:Nat)(w:Xs)(b k:Bs)(e:Xu)(w':Xs):Prop:=match rq N b,rq N k with
 | some n,some m=>I3 w (wr (cmt P n m)) e w'
 | _,_=>MI 3 e
theorem Nf{w:Xs}{v b:Xu}{d k:Bs}(T:Yd)(h:Arg w v d)(f:Arg w b k):wX (w.alloc (.cells #[v,b] T)) (some (aZ w.heap.size)) 2 (λj=>if j=0 then d else k):=λ_ =>
 ⟨w.heap.size,rfl,by rw[XF];omega,λj g=>by
  have e:=(Made.alloc w [v,b] T).range;have c:j=0\/j=1:=oM;rcases c with rfl|rfl
  ·exact⟨v,e 0 _ rfl,h.below (aC w _)⟩
  ·exact⟨b,e 1 _ rfl,f.below (aC w _)⟩⟩
theorem Ko(w:Xs):PartOk w (.slice none 0 0) []:=⟨none,0,0,0,#[],rfl,rfl,Xx _,dC,X9 rfl⟩
theorem Ay(q:Fin P × Fin P):Pair q.1 q.2 (.some q:EC.Pt P):=⟨rfl,rfl⟩
theorem SN(C : Fld P){n m : Nat}(hn : n < top)(hm : m < top){ns : Nat -> Nat}{xs ys : Nat -> Fin P}(h0 : ns 0 = n)(h1 : ns 1 = m)(hx0 : xs 0 = (hpt P iO []).1)(hy0 : ys 0 = (hpt P iO []).2)(hx1 : xs 1 = gX P)(hy1 : ys 1 = gY P):
    uH (ptP (iW ns xs ys 2 257)).1 (ptP (iW ns xs ys 2 257)).2 = wr (cmt P n m) := by
  have hJ := Ch C (N := 2) (ns := ns) (xs := xs) (ys := ys) (p := λj => if j = 0 then(.some (hpt P iO []) : EC.Pt P) else gG P)
    (fun j hj => by have : j = 0 ∨ j = 1 := oM
                    rcases this with rfl | rfl
                    · rw [h0]; exact hn
                    · rw [h1]; exact hm)
    (fun j hj => by have : j = 0 ∨ j = 1 := oM
                    rcases this with rfl | rfl
                    · rw [hx0, hy0]; exact Ay _
                    · rw [hx1, hy1]; exact Ay (gX P, gY P))
    (fun j hj => by have : j = 0 ∨ j = 1 := oM
                    rcases this with rfl | rfl
                    · exact BD C _ _
                    · exact C5 C)
  have e1 := wU C (hJ.pair C) hJ.2;have e2 : tot (λj => if j = 0 then(.some (hpt P iO []) : EC.Pt P) else gG P) 2 (λj => (ns j : Int)) = cmt P n m := eM 2 λj hj => by
    have : j = 0 \/ j = 1 := oM;rcases this with rfl | rfl
    · rw [h0]; rfl
    · rw [h1]; rfl
  rw [e2]at e1;exact e1
theorem ML{N:Nat}(C:Fld P)(hG:Gap 4624529908474429119 4994812053365940164 1 N)(hN:N<=top)(v0 v1:Xu)(E F:Bs)(w:Xs)(h0:Arg w v0 E)(h1:Arg w v1 F):
 XH prog 34 #[v0,v1] w (rZ w λe w'=>Dy P N w E F e w'):=by
 have hA:=Nf 23 h0 h1;obtain⟨p0,n0,c0,rfl,-,-⟩:=h0;obtain⟨p1,n1,c1,rfl,-,-⟩:=h1;have G:=Qo hG 2 2 dC _ _ _ hA;clear hA;go_enter func34,ntmps34;go_wp2_with fail
 refine G.mono ?_;rintro e b ⟨v,rfl,D,⟨k,h9,h3,rfl,u⟩|⟨⟨j,X,c⟩,rfl⟩⟩
 ·obtain⟨n,hn,V⟩:=u 0 dC;obtain⟨m,hm,h2⟩:=u 1 dC;clear u G;have W:Hid (kZ w b):=(aC w _).trans (D.mono (by rw[XF];omega));have Q:Hid (k<b.heap.size/\b.rangeAt k (4*0) (wn n)/\b.rangeAt k (4*1) (wn m)):=⟨h3,V,h2⟩
  have R:Hid (rq N E=some n/\rq N F=some m):=⟨hn,hm⟩
  clear D h9 h3 V h2 hn hm;go_wp2_with fail
  refine(xZ iO none 0 0 b).mono ?_;rintro e w2 ⟨v,rfl,rfl,rfl⟩;have T:=AL C iO none 0 0 [] b dC (Ko b);obtain⟨q,hq⟩:∃q,Hid (hpt P iO []=q):=⟨_,rfl⟩
  rw[hq.out]at T;obtain⟨x,y⟩:=q;obtain⟨gx,Y⟩:∃gx,Hid (gX P=gx):=⟨_,rfl⟩
  obtain⟨p,h4⟩:∃p,Hid (gY P=p):=⟨_,rfl⟩
  have A:=Ff C;rw[Y.out,h4.out]at A;obtain⟨v4,O⟩:∃v4,Hid (pv x y=v4):=⟨_,rfl⟩
  obtain⟨v5,K⟩:∃v5,Hid (pv gx p=v5):=⟨_,rfl⟩
  replace T:XH prog 67 #[.func (.func 117) #[] #[jZ b.heap.size,.pointer (some ⟨b.heap.size+1,0,none⟩)]] ((b.alloc (.cells #[.string iO] 9)).alloc (.cells #[.slice none 0 0] 23)) (rZ b λe w'=>e=v4):=by rw[<-O.out];exact T
  rw[K.out]at A;go_wp2_with fail
  refine T.mono ?_;rintro e w3 ⟨v,rfl,t,rfl⟩;have I:Hid (kZ w w3):=W.out.trans (t.mono W.out.size);have f:Hid (k<w3.heap.size/\w3.rangeAt k (4*0) (wn n)/\w3.rangeAt k (4*1) (wn m)):=⟨Xz Q.out.1 t.size,RG.range_below Q.out.2.1 t Q.out.1,RG.range_below Q.out.2.2 t Q.out.1⟩
  clear T t W Q;go_wp2_with fail
  refine(A _).mono ?_;rintro e o ⟨v,rfl,a,rfl⟩;have H:Hid (kZ w o):=I.out.trans (a.mono I.out.size);have l:Hid (k<o.heap.size/\o.rangeAt k (4*0) (wn n)/\o.rangeAt k (4*1) (wn m)):=⟨Xz f.out.1 a.size,RG.range_below f.out.2.1 a f.out.1,RG.range_below f.out.2.2 a f.out.1⟩
  clear A a I f;obtain⟨d,M⟩:∃d,Hid (o.alloc (.cells ((ws x++ws y)++(ws gx++ws p)).toArray 131)=d):=⟨_,rfl⟩
  go_wp2_with (refine wpList_build (v:=sZ o.heap.size 2 2) (w':=d) rfl 138 2 _ rfl ?_ ?_;rw[<-M.out,<-O.out,<-K.out];kernel_rfl;refine Hid.out ?_)
  have L:Hid (kZ w d/\k<d.heap.size/\o.heap.size<d.heap.size/\(∀i,i<2->d.rangeAt k (4*i) (wn (if i=0 then n else m)))/\∀i,i<2->d.rangeAt o.heap.size (8*i) (ws (if i=0 then x else gx)++ws (if i=0 then y else p))):=by
   have r:=Made.alloc o ((ws x++ws y)++(ws gx++ws p)) 131;have S:o.alloc (.cells ((ws x++ws y)++(ws gx++ws p)).toArray 131)=d:=M.out;rw[S]at r;refine⟨H.out.trans (r.bel.mono H.out.size),Xz l.out.1 r.bel.size,r.lt,λi J=>?_,λi J=>?_⟩
   ·have:i=0\/i=1:=oM;rcases this with rfl|rfl
    ·exact RG.range_below l.out.2.1 r.bel l.out.1
    ·exact RG.range_below l.out.2.2 r.bel l.out.1
   ·have:i=0\/i=1:=oM;rcases this with rfl|rfl
    ·intro j v X;have B:j<8:=(XG.1 X).1;have:=r.range j v (by rw[List.getElem?_append_left (show j<(ws x++ws y).length from B)];exact X);exact this
    ·intro j v X;have:=r.range (8+j) v (by rw[List.getElem?_append_right (show(ws x++ws y).length<=8+j from Nat.le_add_right 8 j),show 8+j-(ws x++ws y).length=j from Nat.add_sub_cancel_left 8 j];exact X);rw[XD]at this;exact this
  clear M H l O K;show wpList _ _ _ _ _ _;have G:XH prog 66 #[sZ k 2 2,sZ o.heap.size 2 2] d (rZ d λe w'=>e=pv (ptP (iW (λi=>if i=0 then n else m) (λi=>if i=0 then x else gx) (λi=>if i=0 then y else p) 2 257)).1 (ptP (iW (λi=>if i=0 then n else m) (λi=>if i=0 then x else gx) (λi=>if i=0 then y else p) 2 257)).2):=by
   refine(Jq C 2 dC (λi=>if i=0 then n else m) (λi=>if i=0 then x else gx) (λi=>if i=0 then y else p) (λi J=>?_) k o.heap.size d L.out.2.1 L.out.2.2.1 L.out.2.2.2.1 L.out.2.2.2.2).mono ?_
   ·have:i=0\/i=1:=oM;rcases this with rfl|rfl
    ·exact xP hN R.out.1
    ·exact xP hN R.out.2
   ·rintro e w' ⟨v,rfl,r,s,rfl,rfl⟩;exact⟨_,rfl,r,rfl⟩
  have hW:=SN C (n:=n) (m:=m) (xP hN R.out.1) (xP hN R.out.2) (ns:=λi=>if i=0 then n else m) (xs:=λi=>if i=0 then x else gx) (ys:=λi=>if i=0 then y else p) rfl rfl (by rw[hq.out];rfl) (by rw[hq.out];rfl) (by rw[Y.out];rfl) (by rw[h4.out];rfl);generalize ptP (iW (λi=>if i=0 then n else m) (λi=>if i=0 then x else gx) (λi=>if i=0 then y else p) 2 257)=z at G hW;have B:∀w,XH prog 70 #[pv z.1 z.2] w (rZ w λe w'=>nF w (uH z.1 z.2) e w'):=wT C _ _;rw[hW]at B;clear hW;generalize pv z.1 z.2=v6 at G B;go_wp2_with fail
  refine G.mono ?_;rintro e w6 ⟨v,rfl,S,rfl⟩;have J:Hid (kZ w w6):=L.out.1.trans (S.mono L.out.1.size);clear S L G;go_wp2_with fail
  refine(B _).mono ?_;rintro e w7 ⟨v,rfl,U,g,r,rfl,h8,h7,h5,Z⟩;have h6:Hid (kZ w w7):=J.out.trans (U.mono J.out.size);have HO:Hid (Dy P N w E F (.tuple #[sZ g 33 r,iZ 0]) w7):=by
   show Dy P N w E F (.tuple #[sZ g 33 r,iZ 0]) w7;unfold Dy;rw[R.out.1,R.out.2];exact⟨g,r,rfl,h8,XB J.out.size h7,h5,Z⟩
  clear U Z B;go_wp2
  go_ret2
  exact⟨_,rfl,h6.out,HO.out⟩
 ·have W:Hid (kZ w b):=(aC w _).trans (D.mono (by rw[XF];omega));have HO:Hid (Dy P N w E F (.tuple #[.slice none 0 0,iZ 3]) b):=by
   show Dy P N w E F (.tuple #[.slice none 0 0,iZ 3]) b;unfold Dy;have:j=0\/j=1:=oM;rcases this with rfl|rfl
   ·have c:rq N E=none:=c;rw[c];rfl
   ·have c:rq N F=none:=c;rw[c];cases rq N E<;>rfl
  clear D c G;go_wp2
  go_ret2
  exact⟨_,rfl,W.out,HO.out⟩
end
section
variable {P:Nat}[NeZero P]{N:Nat}
theorem kT(O:Ord N){n:Nat}(k:n<N):rq N (bx n)=some n:=by
 have hv:beV (bx n).toList=n:=EZ (Xz k O.le);unfold rq;rw[hv,yES ⟨cU n,k⟩]
def Ez(W:Xs)(v:Xu)(T:Bs):Prop:=∃g c,v=sZ g 33 c/\33<=c/\g<W.heap.size/\Holds encB W g 0 T
theorem Ez.grow{W W':Xs}{v:Xu}{T:Bs}(h:Ez W v T)(k:kZ W W'):Ez W' v T:=by
 obtain⟨g,c,e,f,b,d⟩:=h;exact⟨g,c,e,f,Xz b k.size,Holds.below d k b⟩
def Et(W:Xs)(v:Xu)(T:Bs):Prop:=∃u,v=.tuple #[u,iZ 0]/\Ez W u T
section
variable (w:Xs) (k2 k3 k4 a b:Nat) (T:Bs)
def RC1:Nat->Xu->Xs->Prop
 | 0,v,_=>v=nv a
 | 1,v,W=>El 32 W v (bx a)
 | 2,v,_=>v=nv b
 | 3,v,W=>El 32 W v (bx b)
 | 4,v,W=>Et W v T
 | 5,v,W=>Et W v T
 | 6,v,W=>Ez W v T
 | 7,v,_=>v=iZ 0
 | 8,v,W=>Ez W v T
 | 9,v,_=>v=iZ 0
 | _,_,_=>True
def GC1:Gw:=⟨RC1 a b T,λW=>Kp w W [(k4,z33),(k3,wn b),(k2,wn a)],λi v W W' k h=>by
 match i,h with
 | 0,h=>exact h
 | 1,h=>exact El.below h k (Xx _)
 | 2,h=>exact h
 | 3,h=>exact El.below h k (Xx _)
 | 4,h=>obtain⟨u,c,d⟩:=h;exact⟨u,c,d.grow k⟩
 | 5,h=>obtain⟨u,c,d⟩:=h;exact⟨u,c,d.grow k⟩
 | 6,h=>exact Ez.grow h k
 | 7,h=>exact h
 | 8,h=>exact Ez.grow h k
 | 9,h=>exact h
 | _+10,_=>trivial,λW W' k h=>h.grow k⟩
end
theorem mB(C:Fld P)(O:Ord N){a b:Nat}(Q:a<N)(L:b<N):Gives 14 #[nv a,nv b] (pvl (wr (cmt P a b))):=by
 intro w;obtain⟨T,H⟩:∃T,Hid (wr (cmt P a b)=T):=⟨_,rfl⟩
 have R:T.size=33:=by rw[<-H.out];exact aL _
 have E:Hid (Ord N/\a<N/\b<N):=⟨O,Q,L⟩
 have Z:Hid (∀(v0 v1:Xu) (W:Xs),El 32 W v0 (bx a)->El 32 W v1 (bx b)->XH prog 34 #[v0,v1] W (rZ W λe w'=>Et w' e T)):=λv0 v1 W h0 h1=>by
  refine(ML (N:=N) C O.gap O.le v0 v1 (bx a) (bx b) W h0.arg h1.arg).mono ?_;rintro e W' ⟨u,rfl,k,hR⟩;unfold Dy at hR;rw[kT O Q,kT O L]at hR;obtain⟨g,c,rfl,o,s,p,f⟩:=hR;rw[H.out]at f;exact⟨_,rfl,k,_,rfl,g,c,rfl,o,p,f⟩
 rw[H.out];clear C O H Q L;obtain⟨va,D⟩:∃v,Hid (nv a=v):=⟨_,rfl⟩
 obtain⟨vb,r⟩:∃v,Hid (nv b=v):=⟨_,rfl⟩
 have M:=boxS a w;obtain⟨i,m⟩:∃i,Hid (w.alloc (.cells (wn a).toArray 44)=i):=⟨_,rfl⟩
 have I:=boxS b i;obtain⟨j,n⟩:∃j,Hid (i.alloc (.cells (wn b).toArray 44)=j):=⟨_,rfl⟩
 obtain⟨l,f⟩:∃l,Hid (j.alloc (.cells z33.toArray 51)=l):=⟨_,rfl⟩
 rw[D.out,m.out]at M;rw[r.out,n.out]at I;rw[D.out,r.out];have F:i.heap.size=w.heap.size+1:=by rw[<-m.out,XF]
 have K:j.heap.size=w.heap.size+2:=by rw[<-n.out,XF,F]
 rw[F]at I;have A:Hid (Kp w l [(w.heap.size+2,z33),(w.heap.size+1,wn b),(w.heap.size,wn a)]):=by
  have o:Row i w.heap.size (wn a):=by rw[<-m.out];exact row_new w _ _
  have s:Row j (w.heap.size+1) (wn b):=by rw[<-n.out,<-F];exact row_new i _ _
  have p:Row l (w.heap.size+2) z33:=by rw[<-f.out,<-K];exact row_new j _ _
  have b1:kZ w i:=by rw[<-m.out];exact aC w _
  have q:kZ i j:=by rw[<-n.out];exact aC i _
  have k:kZ j l:=by rw[<-f.out];exact aC j _
  refine⟨(b1.trans (q.mono oM)).trans (k.mono oM),λx hx=>?_⟩;simp only[YX,X5,or_false]at hx;rcases hx with rfl|rfl|rfl
  ·exact p
  ·exact s.below k
  ·exact(o.below q).below k
 have S:=Hid.mk' M;have BB:=Hid.mk' I;have Y:=Hid.mk' K;clear M I F K;go_enter func14,ntmps14;go_wp2_with (first|(refine aG (u:=va) (v:=jZ w.heap.size) (w':=i) rfl 44 (.tmp 0) rfl ?_ ?_ ?_;rfl;exact S.out)|(refine aG (u:=vb) (v:=.pointer (some ⟨w.heap.size+1,0,none⟩)) (w':=j) rfl 44 (.tmp 1) rfl ?_ ?_ ?_;rfl;exact BB.out)|(refine bF (v:=.pointer (some ⟨w.heap.size+2,0,none⟩)) (w:=j) (w':=l) rfl (.alloc 51) rfl ?_ ?_;(rw[<-f.out,<-Y.out];kernel_rfl))|fail)
 clear S BB m n f Y;refine(GC1 w w.heap.size (w.heap.size+1) (w.heap.size+2) a b T).draws kR kR ⟨
  jD 44 2 rfl u40 λx W k=>⟨w.heap.size,0,wn a,k.o 2 kR,(k.b.at 2 rfl).2.1,i40,rfl⟩,
  gC λx W k=>⟨[(8,nv a)],10,#[nv a],⟨k.n 0 8 kR kR,yEU⟩,kR,by
   refine(nS E.out.1 E.out.2.1 W).mono ?_;rintro e W' ⟨u,rfl,p,o,rfl⟩;exact⟨_,rfl,o.bel,El.of_made o (cU a)⟩⟩,
  jD 44 3 rfl u40 λx W k=>⟨w.heap.size+1,0,wn b,k.o 3 kR,(k.b.at 1 rfl).2.1,i40,rfl⟩,
  gC λx W k=>⟨[(10,nv b)],10,#[nv b],⟨k.n 2 10 kR kR,yEU⟩,kR,by
   refine(nS E.out.1 E.out.2.2 W).mono ?_;rintro e W' ⟨u,rfl,p,o,rfl⟩;exact⟨_,rfl,o.bel,El.of_made o (cU b)⟩⟩,
  gC λx W k=>⟨[(9,x.eval (.tmp 9)),(11,x.eval (.tmp 11))],34,#[x.eval (.tmp 9),x.eval (.tmp 11)],⟨rfl,rfl,yEU⟩,kR,Z.out _ _ W (k.n 1 9 kR kR) (k.n 3 11 kR kR)⟩,
  bL λx W k=>⟨[(12,x.eval (.tmp 12))],x.eval (.tmp 12),W,⟨rfl,yEU⟩,kR,XM _ _,k.n 4 12 kR kR⟩,
  bL λx W k=>by
   obtain⟨u,o,p⟩:=show Et W (x.eval (.tmp 7)) T from k.n 5 7 kR kR
   exact⟨[(7,.tuple #[u,iZ 0])],u,W,⟨o,yEU⟩,kR,XM _ _,p⟩,
  bL λx W k=>by
   obtain⟨u,o,p⟩:=show Et W (x.eval (.tmp 7)) T from k.n 5 7 kR kR
   exact⟨[(7,.tuple #[u,iZ 0])],iZ 0,W,⟨o,yEU⟩,kR,XM _ _,rfl⟩,
  bL λx W k=>⟨[(13,x.eval (.tmp 13))],x.eval (.tmp 13),W,⟨rfl,yEU⟩,kR,XM _ _,k.n 6 13 kR kR⟩,
  bL λx W k=>⟨[(14,iZ 0)],iZ 0,W,⟨k.n 7 14 kR kR,yEU⟩,kR,XM _ _,rfl⟩,yEU⟩ A.out.drew ?_
 intro V o s B;obtain⟨g,cg,q,-,k3,U⟩:=show Ez o (V 8) T from s 8 (Nat.lt_of_succ_le (Yy kR))
 have p:Kp w o [(w.heap.size+2,z33),(w.heap.size+1,wn b),(w.heap.size,wn a)]:=B;have J:Hid (Row o (w.heap.size+2) z33/\kZ w o/\Row o g (aA T)):=⟨p.at 0 rfl,p.bl,qP U k3⟩
 dsimp only[bY,YH];simp only[XK,Xt,Xv,Xw];rw[q];clear s B q p A k3 U E Z;have h2:=He g cg;obtain⟨l,f⟩:∃l,Hid (o.setCells (w.heap.size+2) 0 (aA T)=l):=⟨_,rfl⟩
 have k:(aA T).length=33:=aB R;have A:Hid (Row l (w.heap.size+2) (aA T)/\kZ w l):=by rw[<-f.out];exact⟨J.out.1.put (by rw[k];rfl),RG.below_setCells oM _ _ _ J.out.2.1⟩
 obtain⟨X,z⟩:∃X,Hid (X6 (aA T).toArray=X):=⟨_,rfl⟩
 obtain⟨d,t,y⟩:=XA.1 uCP;have HD:Hid (prog.underlying 51=some d/\d.isRow=true):=⟨t,y⟩
 have G:Hid ((prog.info? 51).map (·.size)=some (aA T).length/\o.there (w.heap.size+2) 0 (aA T).toArray.size/\(prog.info? 51).map (·.size)=some (aA T).toArray.size):=by
  have e:(aA T).toArray.size=33:=by rw[YD];exact k
  refine⟨by rw[k];exact cZ,by rw[e];exact J.out.1.2.2,by rw[e];exact cZ⟩
 clear k t y;generalize V 0=s0;generalize V 1=s1;generalize V 2=s2;generalize V 3=s3;generalize V 4=s4;generalize V 5=s5;generalize V 6=s6;generalize V 7=s7;generalize V 9=s9;go_wp2_with (first|(refine Yv rfl 51 _ rfl g 0 ?_ (aA T) d ?_ ?_ ?_ ?_ ?_;rfl;exact J.out.2.2.2.1;exact HD.out.1;exact HD.out.2;exact G.out.1;rw[z.out])|(refine X8 rfl 51 _ _ rfl (w.heap.size+2) 0 (aA T).toArray ?_ ?_ ?_ ?_ ?_ ?_;rfl;exact z.out.symm;exact G.out.2.1;exact G.out.2.2;exact bQ T;rw[show(aA T).toArray.toList=aA T from rfl,f.out])|fail)
 refine XE (aF 4 51 rfl A.out.1 rfl uCP G.out.1) rfl ?_;exact⟨_,rfl,A.out.2,rfl⟩
end
section
open Go.Shelf
attribute [local go_sem] yBM
def chv(b k c i:Nat):Xu:=.slice (some ⟨b,k+c*i,none⟩) c c
theorem Lj{w w':Xs}(h:kZ w w')(row:Option Nat):w.grownBy w' row:=⟨h.os,h.tape,h.output,h.size,λk b _=>h.block k b⟩
theorem sl3(k b n cap x y:Nat)(d:x<y)(e:y<=cap)(w:Xs):(Zk 23 (.slice (some ⟨k,b,none⟩) n cap) (some (iZ x)) (some (iZ y)) (some (iZ y))).run prog w=.ok (.slice (some ⟨k,b+x,none⟩) (y-x) (y-x)) w:=by
 have i:¬y=x:=oM;have c:(x:Int)<=y:=oM;have f:(y:Int)<=cap:=oM;have g:x<=y:=oM;go_simp
theorem OP(k b c m n cap f d:Nat)(w:Xs)(X:0<c)(E:n=c*m)(H:n<=cap)(D:n<=1073741824)(I:w.cell? ⟨f,0,none⟩=some (.slice (some ⟨k,b,none⟩) n cap))(A:w.cell? ⟨d,0,none⟩=some (iZ c))(N:f<w.heap.size)(C:d<w.heap.size)(M:Nat):
 SeqStopsK yCH M prog 158 #[jZ f,jZ d] (λi:Nat=>#[chv k b c i]) (Below w.heap.size) (λxs=>xs=Yt m) (λ_=>True) m w:=by
 intro l J Z W P L S Q R;have F:Hid (n=c*m):=E;clear E;refine callsIn_of_wp func158 rfl trivial ?_ rfl;simp only[ntmps158,YD,Yq,Zr,YH,yC4,yBS,yBR,yCm,yB1,ZE,Zx]
 gi_wp2
 gi_loopw [4] (λp wr=>∃i:Nat,i<=m/\p=iZ ((c*i:Nat):Int)/\J (Yt i) wr/\kZ w wr/\W.heap.size<=wr.heap.size) (λp wr=>n-(intOf p).toNat)
 case atStart =>
  exact⟨0,Zh _,by rw[Nat.mul_zero];rfl,R,P,Xx _⟩
 case round =>
  obtain⟨i,Y,rfl,t,v,y⟩:=hrel;have c1:wr.cell? ⟨f,0,none⟩=some (.slice (some ⟨k,b,none⟩) n cap):=(XW (v.block f N)).trans I;have c2:wr.cell? ⟨d,0,none⟩=some (iZ c):=(XW (v.block d C)).trans A;by_cases U:i=m
  ·subst U;have g:¬((c*i:Nat):Int)<(n:Int):=by rw[F.out];omega
   gi_wp2
   go_end0
   exact⟨⟨_,rfl⟩,.inl t⟩
  ·obtain⟨x,hx⟩:∃x,Hid (c*i=x):=⟨_,rfl⟩
   have T:x+c<=n:=by
    have:=Nat.mul_le_mul_left c (show i+1<=m by omega);rw[yAY,hx.out,<-F.out]at this;omega
   have z:(x:Int)<(n:Int):=oM;rw[hx.out]
   gi_wp2_with fail
   refine wpIn_wide.2 ?_;have j:(Zk 23 (.slice (some ⟨k,b,none⟩) n cap) (some (iZ x)) none none).run prog wr.drew=.ok (.slice (some ⟨k,b+x,none⟩) (n-x) (cap-x)) wr.drew:=by
    have I:¬(x:Int)<0:=oM;have A:(x:Int)<=n:=oM;have g:(n:Int)<=cap:=oM;have o:¬cap=x:=oM;go_simp
   have o:wr.drew.cell? ⟨f,0,none⟩=some (.slice (some ⟨k,b,none⟩) n cap):=c1;have g:wr.drew.cell? ⟨d,0,none⟩=some (iZ c):=c2;go_region
   rename_i K ha
   refine ha _ _ ?_;clear ha j o g z;obtain⟨V,tmps,u,G,a,hR⟩:=Q (Yt i) i wr.drew (L _ wr _ none t (Lj ((XM _ wr).drew) none) (λ_ e=>by cases e)) (by rw[yAg];omega);have o:wr.drew.cell? ⟨f,0,none⟩=some (.slice (some ⟨k,b,none⟩) n cap):=c1;have g:wr.drew.cell? ⟨d,0,none⟩=some (iZ c):=c2;have j:∀w:Xs,(Zk 23 (.slice (some ⟨k,b,none⟩) n cap) (some (iZ x)) (some (iZ ((x+c:Nat):Int))) (some (iZ ((x+c:Nat):Int)))).run prog w=.ok (.slice (some ⟨k,b+x,none⟩) c c) w:=λw=>by
    have:=sl3 k b n cap x (x+c) oM oM w;rwa[show x+c-x=c by omega]at this
   unfold chv at a;rw[hx.out]at a
   gi_wp2_with fail
   clear a;refine⟨λh=>(by cases h),hR.mono ?_⟩;clear hR j o g c1;have r:kZ w wr.drew:=v.drew;rintro e O (⟨rfl,B,q⟩|⟨rfl,s⟩)
   ·have c3:O.cell? ⟨d,0,none⟩=some (iZ c):=(XW ((r.trans q).block d C)).trans A
    gi_wp2_with fail
    refine⟨⟨i+1,oM,?_,?_,r.trans q,XB y q.size⟩,?_⟩
    ·rw[yAY,hx.out,Z5];rfl
    ·rw[yBe];exact B
    ·simp[intOf];omega
   ·gi_wp2_with fail
    refine XE (results_none rfl _ _ _) rfl ?_;exact⟨⟨_,rfl⟩,.inr ⟨_,trivial,s⟩⟩
end
section
open Go.Shelf
attribute [local go_sem] yBM
theorem CC(k:Nat)(T:Yd)(v:Xu)(n:Nat)(xs:List Xu):Own (λ(_:Unit) W=>W.ownsRow k T 1 v n xs):=λs A B row c d e=>by
 refine c.kept d ?_;rcases c.2 with⟨rfl,_⟩|⟨g,cap,cur,rfl,_,b,_⟩
 ·exact .inl rfl
 ·refine .inr λe'=>?_
  obtain⟨o,ho,f⟩:=e g (by simpa[Za]using e'.symm);rw[b]at ho;cases ho;cases f
theorem kU{W:Xs}{b:Nat}{T U:Yd}{v:Xu}{n k:Nat}{xs:List Xu}(h:W.ownsRow b T 1 v n xs){o:Obj}(d:W.heap[k]? = some o)(e:∀cs,o≠.cells cs T (0,0)):v.ownBlock=none\/v.ownBlock≠some k:=by
 rcases h.2 with⟨rfl,_⟩|⟨g,cap,cur,rfl,_,c,_⟩
 ·exact .inl rfl
 ·refine .inr λe'=>?_
  have:g=k:=by simpa[Za]using e'
  subst this;rw[c]at d;cases d;exact e cur rfl
theorem KJ{W W':Xs}{b:Nat}{T:Yd}{v:Xu}{n:Nat}{xs:List Xu}(h:W.ownsRow b T 1 v n xs)(f:W.grownBy W' v.ownBlock):KeepsOthers W W':=by
 refine⟨f.size,λk o c ho=>?_⟩;rw[f.block k (XY.1 c).1 ?_]
 ·exact c
 ·rcases h.2 with⟨rfl,_⟩|⟨g,cap,cur,rfl,_,d,_⟩
  ·simp[Za]
  ·intro e;have:k=g:=by simpa[Za]using e
   subst this;rw[d]at c;cases c;cases ho
def Box(T U:Yd)(k Bs:Nat)(xs:List Xu)(W:Xs):Prop:=∃v,W.heap[Bs]? = some (.cells #[v] U (0,0))/\W.ownsRow k T 1 v xs.length xs/\(v=.slice none 0 0↔xs=[])
theorem OZ(T U:Yd)(k Bs:Nat)(xs:List Xu):Own (λ(_:Unit) W=>Box T U k Bs xs W):=λs A B row g c d=>by
 obtain⟨v,b,j,f⟩:=g;refine⟨v,?_,CC k T v _ xs () A B row j c d,f⟩;rw[c.block Bs (XY.1 b).1 ?_]
 ·exact b
 ·intro e;obtain⟨o,ho,i⟩:=d Bs e.symm;rw[b]at ho;cases ho;cases i
theorem OY{W:Xs}{B:Nat}{v:Xu}{t:Yd}(b:Xu)(h:W.heap[B]? = some (.cells #[v] t (0,0))):(W.setCell (aZ B) b).heap[B]? = some (.cells #[b] t (0,0)):=by
 obtain⟨k,c⟩:=XY.1 h;show(W.heap.modify B _)[B]? = _;rw[X4 (by rw[Array.size_modify];exact k),Array.getElem_modify_self,c];rfl
theorem IU(W:Xs)(b:Nat)(v:Xu):W.grownBy (W.setCell (aZ b) v) (some b):=
 ⟨rfl,rfl,rfl,(yCk W _ v).size,λk _ c=>Below.heap_setCell _ _ _ k (λe=>c (by rw[e]))⟩
theorem iBy:(prog.info? 23).map (λi=>(i.zero,i.size,i.bytes))=some (some (.slice none 0 0),1,24):=kR
theorem uBB:prog.underlying 27=some (.slice 23):=kR
theorem Do(g:Nat->YW)(c:Nat)(gf:Nat)(eg:∀args w,(callFunc gf args).run prog w=.ok (.enter gf args) w)(lb:Array Xu)(N:Nat)(hN:N<=1048576)(w:Xs)
 (G:∀n,SeqStopsK yCH n prog gf lb (λi:Nat=>#[.slice (some (g i)) c c]) (Below w.heap.size) (λxs=>xs=Yt N) (λ_=>True) N w) :
 XH prog 157 #[.slice none 0 0,.func (.func gf) #[] lb] w (rZ w λe w'=>w'.ownsRow w.heap.size 23 1 e N ((Yt N).map (λi=>yAe (some (g i)) c c))/\(e=.slice none 0 0↔N=0)):=by
 obtain⟨i0,hi,R,Y,h6⟩:=info_parts iBy;refine(callsIn_wide (n:=5)).1 ?_;refine callsIn_of_wp_marks func157 rfl trivial ?_ rfl;simp only[ntmps157,YD,Yq,Zr,YH,yC4,yBS,yBR,yCm,yB1,ZE,Zx]
 gi_wp2
 obtain⟨P,q⟩:∃P,P=w.alloc (.cells #[.slice none 0 0] 27):=⟨_,rfl⟩
 have hb:P.heap.size=w.heap.size+1:=by rw[q,XF]
 have h5:P.heap[w.heap.size]? = some (.cells #[.slice none 0 0] 27 (0,0)):=by rw[q];exact World.alloc_heap_new w _
 have I:kZ w P:=by rw[q];exact(XM _ w).alloc (Xx _) _
 rw[<-q];clear q;refine wpIn_rangeFunc_ownH (α:=Nat) rfl dC (gf:=gf) (lb:=lb) rfl trivial eg (G 4) belowK_t (belowK_b oM) I (λ_=>rfl)
  (λb W=>Box 23 27 w.heap.size w.heap.size (b.map (λi=>yAe (some (g i)) c c)) W/\kZ w W)
  (λc b W=>False)
  (OwnFrom.and (Own.from (show Own (λ(b:List Nat) W=>Box 23 27 w.heap.size w.heap.size (b.map (λi=>yAe (some (g i)) c c)) W) from λs A B row d f M=>OZ 23 27 w.heap.size w.heap.size (s.map (λi=>yAe (some (g i)) c c)) () A B row d f M) _) (ownFrom_below (Xx _) oM))
  (λc=>λs A B row d f M=>d.elim)
  ⟨⟨_,h5,⟨rfl,.inl ⟨rfl,rfl⟩⟩,by simp⟩,I⟩
  (λx X W=>X = { tmps:=#[.slice none 0 0,.func (.func gf) #[] lb,jZ w.heap.size,Zp,.slice none 0 0,.slice (some (g x)) c c,.func (.func gf) #[] lb,.slice (some (g x)) c c,Zp,Zp,Zp,Zp,Zp],defers:=[] })
  (λx X=>λs A B row d f M=>d) ?assign ?body ?done ?stop
 case assign =>
  intro l b x W K d H
  gi_wp2
  exact H _ _ (KeepsFrom.refl _ _) (XM _ _) d rfl
 case body =>
  rintro l b x X W hl ⟨r,M⟩ ⟨⟨v,hv,j,C⟩,O⟩ rfl he;have hc:W.cell? ⟨w.heap.size,0,none⟩=some v:=by simp[YO,hv]
  have S:W.frozen? ⟨w.heap.size,0,none⟩=false:=by simp[Zi,hv]
  have A:w.heap.size<W.heap.size:=(XY.1 hv).1;have o:(b.map (λi=>yAe (some (g i)) c c)).length=b.length:=XV _;have d:(W.alloc (.cells #[.slice (some (g x)) c c] 23)).ownsRow w.heap.size 23 1 v (b.map (λi=>yAe (some (g i)) c c)).length (b.map (λi=>yAe (some (g i)) c c)):=j.alloc _;have E:(W.alloc (.cells #[.slice (some (g x)) c c] 23)).heap[w.heap.size]? = some (.cells #[v] 27 (0,0)):=(Below.heap_alloc _ _ _ A).trans hv;have V:=kU (U:=0) d E (λcs e=>by cases e)
  gi_wp2_with (gi_at_builtin;refine Hid.out ?_)
  show wpListIn _ _ _ _ _ _ _ _
  (refine wpListIn_append_own _ rfl _ _ 27 rfl w.heap.size 23 i0 (.slice none 0 0) 1 24 uBB hi R Y h6 rfl dC v _ _ rfl d (aZ W.heap.size) 1 1 [.slice (some (g x)) c c] rfl rfl (cell_one_new _ _ _) (λu hu=>by rw[YY.1 hu];rfl) (by rw[o];exact XB (show b.length+1<=1048577 by omega) dC) (by rw[o];omega) (by simp;omega) ?_;intro v' z m t h4)
  have h7:(some w.heap.size:Option Nat)≠v.ownBlock:=by
   rcases V with e|e
   ·rw[e];simp
   ·exact λe'=>e e'.symm
  have y:z.heap[w.heap.size]? = some (.cells #[v] 27 (0,0)):=(t.block _ (by rw[XF];omega) h7).trans E;have h9:z.cell? ⟨w.heap.size,0,none⟩=some v:=by simp[YO,y]
  have ha:z.frozen? ⟨w.heap.size,0,none⟩=false:=by simp[Zi,y]
  have Z:KeepsOthers W z:=(yD5 W _).trans (KJ d t);have J:Below w.heap.size W z:=((XM _ W).alloc (Nat.le_of_lt A) _).grown t (by rw[XF];omega) (λk e=>(d.lt k e).1);obtain⟨a,f,p,rfl,Q,h8,M⟩:∃a f p,v'=sZ a ((b.map (λi=>yAe (some (g i)) c c)).length+1) f/\w.heap.size<=a/\z.heap[a]? = some (.cells p 23 (0,0))/\True:=by
   rcases m.2 with⟨_,F⟩|⟨a,f,p,T,L,K,_⟩
   ·exact absurd F oM
   ·exact⟨a,f,p,T,L,K,yEU⟩
  clear t hc S hv E j d
  gi_wp2
  have L:=IU z w.heap.size (sZ a (b.length+1) f);have T:=OY (sZ a (b.length+1) f) y;rw[o]at m;have F:=m.kept L (kU (U:=0) m y (λcs e=>by cases e));have K:Below w.heap.size W (z.setCell (aZ w.heap.size) (sZ a (b.length+1) f)):=J.grown L (XB O.size J.size) (λk e=>by cases e;exact Xx _);refine⟨(Z.trans (yCk z _ _)).from _,K,⟨_,T,?_,?_⟩,O.trans K⟩
  ·rw[YU,XC,o];exact F
  ·simp
 case done =>
  rintro D ys W m rfl ⟨⟨v,hv,j,C⟩,O⟩ H;have hc:W.cell? ⟨w.heap.size,0,none⟩=some v:=by simp[YO,hv]
  gi_wp2
  refine⟨by simp,.inl ⟨_,_,rfl,run_takeDeferred H,?_⟩⟩;have d:=grownBy_putObj' W D (.deferred none);rw[XV,yAg]at j;refine⟨_,results_tmp rfl _ _ _,v,rfl,O.grown d O.size (λk e=>by cases e;omega),j.kept d (kU (U:=0) j H (λcs e=>by cases e)),?_⟩;rw[C];simp
 case stop =>
  rintro D c b W m d f H;exact f.elim
theorem IG(g:Nat->YW)(c:Nat)(gf:Nat)(j:∀args w,(callFunc gf args).run prog w=.ok (.enter gf args) w)(lb:Array Xu)(N:Nat)(l:N<=1048576)(w:Xs)
 (k:∀n,SeqStopsK yCH n prog gf lb (λi:Nat=>#[.slice (some (g i)) c c]) (Below w.heap.size) (λxs=>xs=Yt N) (λ_=>True) N w) :
 XH prog 104 #[.func (.func gf) #[] lb] w (rZ w λe w'=>w'.ownsRow w.heap.size 23 1 e N ((Yt N).map (λi=>yAe (some (g i)) c c))/\(e=.slice none 0 0↔N=0)):=by
 go_enter func104,ntmps104;go_wp2_with fail
 refine(Do g c gf j lb N l w k).mono ?_;rintro e m ⟨v,rfl,b,f,d⟩;go_wp2_with fail
 go_ret;exact⟨_,rfl,b,f,d⟩
theorem LU(f g c m n cap:Nat)(w:Xs)(j:0<c)(l:n=c*m)(r:m<=1024)(d:n<=cap)(b:n<=1073741824)(k:Nat)(o:k+1<w.heap.size)(p:w.cell? ⟨k,0,none⟩=some (.slice (some ⟨f,g,none⟩) n cap))(q:w.cell? ⟨k+1,0,none⟩=some (iZ c)):
 XH prog 104 #[.func (.func 158) #[] #[jZ k,.pointer (some ⟨k+1,0,none⟩)]] w (rZ w λe w'=>w'.ownsRow w.heap.size 23 1 e m ((Yt m).map (chv f g c))/\(e=.slice none 0 0↔m=0)):=
 IG (λi=>⟨f,g+c*i,none⟩) c _ (enters_of func158 kR rfl) _ m oM w (OP f g c m n cap k (k+1) w j l d b p q oM o)
theorem LV(k b n cap:Nat)(c:Nat)(f:0<c)(w:Xs):XH prog 105 #[.slice (some ⟨k,b,none⟩) n cap,iZ c] w (Ret λe w'=>e=.func (.func 158) #[] #[jZ w.heap.size,.pointer (some ⟨w.heap.size+1,0,none⟩)]/\w'=(w.alloc (.cells #[.slice (some ⟨k,b,none⟩) n cap] 23)).alloc (.cells #[iZ c] 3)):=by
 have d:¬(c:Int)<1:=oM;go_enter func105,ntmps105;go_wp2;go_ret;exact⟨_,rfl,rfl,rfl⟩
end
section
variable {P:Nat}[NeZero P]{N:Nat}
def zz(n:Nat):List Xu:=(YE n (YQ .u8 0))
def o33:Bs:=XL 33 0
theorem Ol:(.agg z33.toArray:Xu)=pvl o33:=by
 unfold pvl z33 o33 aA;rw[yBG,List.map_replicate];rfl
theorem Sm.mono{B k:Nat}{W:Xs}{v:Xu}{l:List (Nat × Bs)}(h:Sm B W v l)(f:k<=B):Sm k W v l:=by
 obtain⟨g,c,d,e,i,b⟩:=h;exact⟨g,c,d,e,XB f i,b⟩
section
variable (w:Xs) (k6 k8 n:Nat) (Y A T:Bs)
def Rb:Nat->Xu->Xs->Prop
 | 0,v,_=>v=pvl Y
 | 1,v,W=>Sm w.heap.size W v [(1,Y)]
 | 2,v,_=>v=pvl A
 | 3,v,_=>v=nv n
 | 4,v,W=>Sm w.heap.size W v [(n,A)]
 | 5,v,W=>Sm w.heap.size W v [(1,Y),(n,A)]
 | 6,v,_=>v=pvl T
 | 7,v,W=>El 33 W v T
 | 8,v,W=>El 33 W v T
 | 9,v,_=>v=iZ 0
 | _,_,_=>True
def Gb:Gw:=⟨Rb w n Y A T,λW=>Kp w W [(k8,wn n),(k6,aA Y)],λi v W W' k h=>by
 match i,h with
 | 0,h=>exact h
 | 1,h=>exact Sm.grow h k
 | 2,h=>exact h
 | 3,h=>exact h
 | 4,h=>exact Sm.grow h k
 | 5,h=>exact Sm.grow h k
 | 6,h=>exact h
 | 7,h=>exact El.below h k (Xx _)
 | 8,h=>exact El.below h k (Xx _)
 | 9,h=>exact h
 | _+10,_=>trivial,λW W' k h=>h.grow k⟩
end
theorem xJ(O:Ord N)(B:Nat)(s t:Xu)(l m:List (Nat × Bs))(q:0<l.length)(J:l.length<=500)(Q:m.length<=500)(C:∀x∈l,x.2.size=33)(b:∀x∈m,x.2.size=33)(n:∀x∈m,x.1<N)(w:Xs)(K:B<=w.heap.size)(G:Sm B w s l)(I:Sm B w t m):
 XH prog 197 #[s,t] w (rZ w λe w'=>Sm w.heap.size w' e (l++m.map (tmT N (sMi N 0 1)))):=by
 have p:1<N:=by have:2<=N:=XB O.n2 (Nat.mod_le _ _);omega
 have k:=Hid.mk' (Em O p);have c:sMi N 0 1<N:=Y9 _ O.pos;generalize sMi N 0 1=o at k c⊢;have E:Hid (∀W,kZ w W->XH prog 149 #[t,nv o] W (rZ W λe w'=>Sm W.heap.size w' e (m.map (tmT N o)))):=λW u=>by
  have d:∀x∈m.map (·.2),x.size=33:=λx hx=>by obtain⟨y,f,rfl⟩:=Yw.1 hx;exact b y f
  exact eH O c B t m oM d n W (I.grow u)
 have R:Hid (∀W v,kZ w W->Sm w.heap.size W v (m.map (tmT N o))->XH prog 31 #[s,v] W (rZ W λe w'=>Sm W.heap.size w' e (l++m.map (tmT N o)))):=λW v u hv=>by
  refine tB B s v l (m.map (tmT N o)) q J (by rw[XV];exact Q) C (λx hx=>?_) W (G.grow u) (hv.mono K);obtain⟨y,f,rfl⟩:=Yw.1 hx;exact b y f
 obtain⟨Z,cs,V,-⟩:=id G;obtain⟨X,ct,L,-⟩:=id I;subst V;subst L;obtain⟨v1,f⟩:=hE (nv 1);obtain⟨vo,g⟩:=hE (nv o);rw[f.out,g.out]at k;rw[g.out]at E;have H:=Hid.mk' (Kh);rw[f.out]at H;go_enter func197,ntmps197;go_wp2_with fail
 refine(H w).mono ?_;rintro e T ⟨P,rfl,i,rfl⟩;go_wp2_with fail
 refine(k T).mono ?_;rintro e M ⟨P,rfl,a,rfl⟩;have j:=mk1 (i.trans (a.mono i.size));go_wp2_with fail
 refine(E M j.out).mono ?_;rintro e S ⟨U,rfl,r,D⟩;have d:=mk2 (j.trans (r.mono j.size)) (D.mono j.size);go_wp2_with fail
 refine(R S U d.1 d.2).mono ?_;rintro e w4 ⟨Y,rfl,A,z⟩;have F:=mk2 (d.1.trans (A.mono d.1.size)) (z.mono d.1.size);go_wp2;go_ret;exact⟨_,rfl,F.1,F.2⟩
def encV(v:Xu):Xu:=v
structure ListAt(w:Xs)(g cap:Nat)(vs:List Xu)(cur:Array Xu):Prop where
 lt:g<w.heap.size
 size:cur.size=cap
 fits:vs.length<=cap
 holds:Holds encV w g 0 cur
 front:∀j,j<vs.length->cur[j]! = vs[j]!
omit [NeZero P] in
theorem MR:(wr (none:EC.Pt P))=o33:=by
 show I6=o33;decide +kernel
theorem My(q:Option YW)(c:Nat)(w:Xs):XH prog 56 #[.func (.func 57) #[] #[],.slice q 0 c] w (rZ w λe w'=>∃K,e=.tuple #[sZ K 0 0,.bool true]):=by
 obtain⟨C0,f,d⟩:=Uu 0 dC;have k:(Instr.makeSlice 83 (iZ 0) (iZ 0)).run prog w=.ok (sZ w.heap.size 0 0) (w.alloc (.cells C0.toArray 51)):=d w;obtain⟨g,b⟩:∃g,Hid (w.alloc (.cells C0.toArray 51)=g):=⟨_,rfl⟩
 rw[b.out]at k;have j:Hid (kZ w g):=by rw[<-b.out];exact aC _ _
 clear d f b;go_enter func56,ntmps56;go_wp2;clear k;go_loopg [16] 0 (λm s16 W=>s16=iZ 0/\Hid (kZ w W))
 case atStart=>exact⟨rfl,j.out⟩
 case round =>
  obtain⟨rfl,i⟩:=hrel;go_wp2
  go_ret2
  exact⟨_,rfl,i.out,_,rfl⟩
end
section
open SPA
variable {P:Nat}[NeZero P]{N:Nat}[NeZero N]
theorem VF(g j:Nat):(⟨g,0,none⟩:YW).add j=⟨g,j,none⟩:=by
 simp[Addr.add];exact λh=>h.symm
theorem jI{W:Xs}{k n g c:Nat}{e:Yd}{xs:List Xu}(h:W.ownsRow k e 1 (sZ g n c) n xs){j:Nat}{u:Xu}(b:xs[j]? = some u):W.cell? ⟨g,j,none⟩=some u:=by
 have:=h.cells (g:=g) rfl j u b;rw[VF]at this;exact this
theorem mT{W:Xs}{k n:Nat}{e:Yd}{v:Xu}{xs:List Xu}(h:W.ownsRow k e 1 v n xs)(b:0<n):∃g c,v=sZ g n c:=by
 rcases h with⟨-,⟨-,d⟩|⟨g,cap,cur,rfl,-⟩⟩
 ·omega
 ·exact⟨g,cap,rfl⟩
def PtL(Q:Nat->Prop)(W:Xs)(K t:Nat)(B:Nat->Bs):Prop:=∀j,j<t->Q K/\K<W.heap.size/\W.rangeAt K (33*j) (aA (B j))
theorem PtL.keep{Q:Nat->Prop}{W W':Xs}{K t:Nat}{B:Nat->Bs}(h:PtL Q W K t B)(k:Kq Q W W'):PtL Q W' K t B:=λj d=>by
 obtain⟨b,c,f⟩:=h j d;refine⟨b,Xz c k.size,λi u e=>?_⟩;rw[XW (a:=⟨K,33*j+i,none⟩) (k.block K b c)];exact f i u e
theorem PtL.mono2{Q Q':Nat->Prop}{W:Xs}{K t:Nat}{B:Nat->Bs}(h:PtL Q W K t B)(d:∀g,g<W.heap.size->Q g->Q' g):PtL Q' W K t B:=λj b=>by
 obtain⟨c,k,e⟩:=h j b;exact⟨d K k c,k,e⟩
theorem TlL.below{Q:Nat->Prop}{k t:Nat}{W W':Xs}{v:Xu}{B:Nat->Bs}(h:TlL Q k t W v B)(b:kZ W W'):TlL Q k t W' v B:=h.keep (Kq.of_below b) λg c=>b.block g (h.lt c).2
def TlV(t:Nat)(W:Xs)(v:Xu)(B:Nat->Bs):Prop:=∃q c,v=.slice q t c/\(0<t->∃g,q=some (aZ g)/\g<W.heap.size/\∀j,j<t->∃x,W.cell? ⟨g,j,none⟩=some x/\Arg33 W x (B j))
theorem TlV.below{t:Nat}{W W':Xs}{v:Xu}{B:Nat->Bs}(h:TlV t W v B)(k:kZ W W'):TlV t W' v B:=by
 obtain⟨q,c,rfl,h⟩:=h;refine⟨q,c,rfl,λi=>?_⟩;obtain⟨g,rfl,b,l⟩:=h i;refine⟨g,rfl,Xz b k.size,λj d=>?_⟩;obtain⟨x,e,f⟩:=l j d;exact⟨x,by rw[k.cell (p:=⟨g,j,none⟩) b];exact e,f.below k⟩
theorem Mv(C:Fld P){t:Nat}{W:Xs}{v:Xu}{B:Nat->Bs}(o:t<=512)(h:TlV t W v B)(l:∀j,j<t->∃p,rd P (B j)=some p):XH prog 56 #[.func (.func 57) #[] #[],v] W (rZ W λe w'=>∃K,e=.tuple #[sZ K t t,.bool true]/\PtL (W.heap.size<=·) w' K t B):=by
 rcases Nat.eq_zero_or_pos t with d|d
 ·obtain⟨q,c,rfl,-⟩:=h;subst d;refine(My q c W).mono ?_;rintro e w' ⟨v,rfl,b,K,rfl⟩;exact⟨_,rfl,b,K,rfl,λj k=>absurd k (Nat.not_lt_zero _)⟩
 ·obtain⟨q,c,rfl,r⟩:=h;obtain⟨g,rfl,s,n⟩:=r d;refine(Fp C g t c o B W s n).mono ?_
  ·rintro e w' ⟨v,rfl,b,h⟩;rcases h with⟨-,K,rfl,i,u,m⟩|⟨⟨j,k,f⟩,-⟩
   ·exact⟨_,rfl,b,K,rfl,λj k=>⟨i,u,m j k⟩⟩
   ·obtain⟨p,w⟩:=l j k;rw[w]at f;cases f
theorem ElQ.argS{Q:Nat->Prop}{W:Xs}{x:Xu}{b:Bs}(h:ElQ Q 32 W x b):Arg W x b:=by
 obtain⟨k,c,rfl,d,g,-,e,f⟩:=h;exact⟨_,32,c,rfl,g,λ_=>⟨k,0,rfl,d,e,f⟩⟩
def two{α:Type}(x y:α)(j:Nat):α:=if j=0 then x else y
theorem WY(k b:Nat)(n c d e:Nat)(w:Xs):(Yr 27 2 #[(0,sZ k n c),(1,sZ b d e)]).run prog w=.ok (sZ w.heap.size 2 2) (w.alloc (.cells #[sZ k n c,sZ b d e] 23)):=kR
theorem WX{Q Q':Nat->Prop}{W:Xs}{x y:Xu}{b f:Bs}(h:ElQ Q 32 W x b)(g:ElQ Q' 32 W y f)(w:Xs):(Yr 27 2 #[(0,x),(1,y)]).run prog w=.ok (sZ w.heap.size 2 2) (w.alloc (.cells #[x,y] 23)):=by
 obtain⟨k,c,rfl,-⟩:=h;obtain⟨d,e,rfl,-⟩:=g;exact WY k d 32 c 32 e w
theorem Ms{Q Q':Nat->Prop}{W:Xs}{x y:Xu}{b d:Bs}(h:ElQ Q 32 W x b)(f:ElQ Q' 32 W y d):Args (W.alloc (.cells #[x,y] 23)) (some (aZ W.heap.size)) 2 (two b d):=λ_=>by
 have c:=aC W (.cells #[x,y] 23);have k:=row_new W [x,y] 23;refine⟨_,rfl,k.1,λj e=>?_⟩;match j,e with
 | 0,_=>exact⟨x,k.2.1 0 _ rfl,h.argS.below c⟩
 | 1,_=>exact⟨y,k.2.1 1 _ rfl,f.argS.below c⟩
 | j+2,h=>omega
theorem Vm(a b c d:Xu)(w:Xs):(Yl 64 (.agg #[a,b,c,d])).run prog w=.ok (jZ w.heap.size) (w.alloc (.cells #[a,b,c,d] 64)):=kR
theorem uIr:(prog.underlying 252).map (·.isRow)=some true:=kR
theorem iIr:(prog.info? 252).map (·.size)=some 10:=kR
def inL(c k t a b:Nat):List Xu:=sZ c t t :: sZ k t t :: (wn a++wn b)
def inZ:List Xu:=[.slice none 0 0,.slice none 0 0,uZ 0,uZ 0,uZ 0,uZ 0,uZ 0,uZ 0,uZ 0,uZ 0]
theorem Gz(c k t a b:Nat):(inL c k t a b).toArray.all (·.oneCell')=true:=kR
omit [NeZero N] in
theorem NQ(C:Fld P)(O:Ord N){t:Nat}(ht:t<=6){Lb Rb:Nat->Bs}{A B:Bs}{a b:Nat}{vL vR D z:Xu}(w:Xs)(hL:TlV t w vL Lb)(hR:TlV t w vR Rb)(hA:ElQ (λ_=>True) 32 w D A)(hB:ElQ (λ_=>True) 32 w z B)(hl:∀j,j<t->∃p,rd P (Lb j)=some p)(hr:∀j,j<t->∃p,rd P (Rb j)=some p)(ha:rq N A=some a)(hb:rq N B=some b):
 XH prog 160 #[.agg #[vL,vR,D,z],iZ t] w (rZ w λe w'=>∃q r,e=.tuple #[.agg (inL q r t a b).toArray,.bool true]/\PtL (w.heap.size<=·) w' q t Lb/\PtL (w.heap.size<=·) w' r t Rb):=by
 obtain⟨k,hk⟩:∃k,Hid (w.heap.size=k):=⟨_,rfl⟩
 obtain⟨M,X⟩:∃M,Hid (w.alloc (.cells #[vL,vR,D,z] 64)=M):=⟨_,rfl⟩
 obtain⟨Q,h7⟩:∃Q,Hid (M.alloc (.cells inZ.toArray 252)=Q):=⟨_,rfl⟩
 obtain⟨vI,hvI⟩:∃v,Hid (X6 #[vL,vR,D,z]=v):=⟨_,rfl⟩
 have B1:Hid ((Yl 64 vI).run prog w=.ok (jZ k) M):=by rw[<-hvI.out,<-X.out,<-hk.out];exact Vm _ _ _ _ w
 obtain⟨q1,x1,rfl,-⟩:=id hL;obtain⟨q2,x2,rfl,-⟩:=id hR;have z1:M.heap.size=k+1:=by rw[<-X.out,XF,hk.out]
 have hz:=Hid.mk' z1;have b1:kZ w M:=by rw[<-X.out];exact aC _ _
 have b2:kZ M Q:=by rw[<-h7.out];exact aC _ _
 have r1:Row M k [.slice q1 t x1,.slice q2 t x2,D,z]:=by rw[<-X.out,<-hk.out];exact row_new w _ _
 have r2:Row Q (k+1) inZ:=by rw[<-h7.out,<-z1];exact row_new M _ _
 have hn:=b1.trans (b2.mono b1.size);have hs:=Hid.mk' (λ(W:Xs) (S:kZ w W)=>Mv C (v:=.slice q1 t x1) oM (hL.below S) hl);have hp:=Hid.mk' (λ(W:Xs) (S:kZ w W)=>Mv C (v:=.slice q2 t x2) oM (hR.below S) hr);have L:=Hid.mk' (YP (λ(W:Xs) (S:kZ w W)=>hA.keep (Kq.of_below S)) (λ(W:Xs) (S:kZ w W)=>hB.keep (Kq.of_below S)));have h8:=Hid.mk' (λ(W:Xs) (S:kZ w W)=>Mw O 2 2 dC (some (aZ W.heap.size)) (two A B) (two a b) (W.alloc (.cells #[D,z] 23)) (Ms (L.1 W S) (L.2 W S)) (λj hj=>by
  match j,hj with
  | 0,_=>exact ha
  | 1,_=>exact hb
  | j+2,h=>omega))
 have K2:Hid (Row Q (k+1) inZ/\kZ w Q/\Row Q k [.slice q1 t x1,.slice q2 t x2,D,z]):=⟨r2,hn,r1.below b2⟩
 have c0:Q.cell? ⟨k,0,none⟩=some (.slice q1 t x1):=(r1.below b2).2.1 0 _ rfl;have c1:Q.cell? ⟨k,1,none⟩=some (.slice q2 t x2):=(r1.below b2).2.1 1 _ rfl;rw[hvI.out];clear b1 b2 r1 r2 hn z1 hL hR hA hB hvI hl hr ha hb;go_enter func160,ntmps160;go_wp2_with (first|(refine aG (u:=vI) (v:=jZ k) (w':=M) rfl 64 (.tmp 0) rfl ?_ ?_ ?_;rfl;exact B1.out)|(refine fU (v:=.pointer (some ⟨k+1,0,none⟩)) (w':=Q) rfl 252 4 rfl rfl ?_ ?_;(rw[<-h7.out,<-hz.out];kernel_rfl))|fail)
 refine(hs Q K2.2.1).mono ?_;rintro e w3 ⟨uu,rfl,V,q,rfl,hq⟩;have b3:=K2.2.1.trans (V.mono K2.2.1.size);have U:Hid (Row w3 (k+1) inZ/\kZ w w3/\Row w3 k [.slice q1 t x1,.slice q2 t x2,D,z]/\PtL (k+1 < ·) w3 q t Lb):=⟨K2.1.below V,b3,K2.2.2.below V,hq.mono2 λg _ T=>Xz K2.1.1 T⟩
 have hw:w3.cell? ⟨k,1,none⟩=some (.slice q2 t x2):=U.2.2.1.2.1 1 _ rfl;clear V hq b3 K2 c0 c1 hs;go_wp2_with fail
 refine(hp w3 U.2.1).mono ?_;rintro e s ⟨uu,rfl,J,r,rfl,he⟩;have b4:=U.2.1.trans (J.mono U.2.1.size);have F:Hid (Row s (k+1) inZ/\kZ w s/\Row s k [.slice q1 t x1,.slice q2 t x2,D,z]/\PtL (k+1 < ·) s q t Lb/\PtL (k+1 < ·) s r t Rb):=⟨U.1.below J,b4,U.2.2.1.below J,U.2.2.2.keep (Kq.of_below J),he.mono2 λg _ T=>Xz U.1.1 T⟩
 have k0:s.cell? ⟨k,2,none⟩=some D:=F.2.2.1.2.1 2 _ rfl;have hy:s.cell? ⟨k,3,none⟩=some z:=F.2.2.1.2.1 3 _ rfl;obtain⟨w5,Y⟩:∃W,Hid (s.alloc (.cells #[D,z] 23)=W):=⟨_,rfl⟩
 obtain⟨k5,h9⟩:∃n,Hid (s.heap.size=n):=⟨_,rfl⟩
 have HS:Hid ((Yr 27 2 #[(0,D),(1,z)]).run prog s=.ok (sZ k5 2 2) w5):=by rw[<-Y.out,<-h9.out];exact WX (L.1 s F.2.1) (L.2 s F.2.1) s
 have h3:=h8.out s F.2.1;rw[Y.out,h9.out]at h3;have hm:=Hid.mk' h3;have K:kZ s w5:=by rw[<-Y.out];exact aC _ _
 have b5:=F.2.1.trans (K.mono F.2.1.size);have K5:Hid (Row w5 (k+1) inZ/\kZ w w5/\PtL (k+1 < ·) w5 q t Lb/\PtL (k+1 < ·) w5 r t Rb):=⟨F.1.below K,b5,F.2.2.2.1.keep (Kq.of_below K),F.2.2.2.2.keep (Kq.of_below K)⟩
 clear J he b4 U hw hp h3 K b5 h8 L;go_wp2_with (first|(refine jK (v:=sZ k5 2 2) (w':=w5) rfl 27 2 _ rfl #[(0,D),(1,z)] ?_ ?_ ?_;kernel_rfl;exact HS.out)|fail)
 refine hm.mono ?_;rintro e m ⟨uu,rfl,G,f,rfl,hi⟩;have K6:Hid (Row m (k+1) inZ/\kZ w m/\PtL (k+1 < ·) m q t Lb/\PtL (k+1 < ·) m r t Rb/\SLq (k+1 < ·) m (sZ f 2 2) 2 (two a b)):=⟨K5.1.below G,K5.2.1.trans (G.mono K5.2.1.size),K5.2.2.1.keep (Kq.of_below G),K5.2.2.2.keep (Kq.of_below G),hi.mono λg T=>Xz K5.1.1 T⟩
 have hE:m.rangeAt f 0 (wn a)/\m.rangeAt f 4 (wn b)/\k+1≠f:=by
  obtain⟨g,o,c,e,-,E,-,y⟩:=K6.2.2.2.2;injection e with e1
  injection e1 with e1
  injection e1 with e2 e3
  subst e2 e3;exact⟨y 0 dC,y 1 dC,Nat.ne_of_lt E⟩
 have H:=Hid.mk' hE;clear G hi K5 F hm HS k0 hy Y hE;go_wp2_with fail
 obtain⟨dS,R,I⟩:=XA.1 rSc;have E:m.drew.rangeAt f 0 (wn a)/\m.drew.rangeAt f 4 (wn b):=⟨H.1,H.2.1⟩
 refine anyS.begin (λ_ W=>W.rangeAt f 0 (wn a)/\W.rangeAt f 4 (wn b)) kR ?_;have Z:∀(p:Nat),Bef (λ_ W=>yBu W f 0 (wn a)/\yBu W f 4 (wn b)) p m.drew:=λp=>⟨#[],by simp,E⟩
 refine anyS.val (i:=0) (d:=some 57) (x:=sZ q t t) rfl 9 (λ_ _ h=>h) (Z 9) E ?_;simp only[XK,Xt,Xv,Xw];refine anyS.val (i:=1) (d:=some 58) (x:=sZ r t t) rfl 9 (λ_ _ h=>h) (Z 9) E ?_;simp only[XK,Xt,Xv,Xw];refine anyS.val (i:=2) (d:=some 59) (x:=sZ f 2 2) rfl 9 (λ_ _ h=>h) (Z 9) E ?_;simp only[XK,Xt,Xv,Xw];refine anyS.val (i:=3) (d:=some 60) (x:=jZ f) rfl 9 (λ_ _ h=>h) (Z 9) E ?_;simp only[XK,Xt,Xv,Xw];refine anyS.row (i:=4) (d:=some 61) (cs:=wn a) rfl 9 (λ_ _ h=>h) 44 60 f 0 dS rfl R I nSc (λW ⟨l,e,h⟩=>h.1) (Z 9) E ?_;simp only[XK,Xt,Xv,Xw];refine anyS.val (i:=5) (d:=some 62) (x:=sZ f 2 2) rfl 9 (λ_ _ h=>h) (Z 9) E ?_;simp only[XK,Xt,Xv,Xw];refine anyS.val (i:=6) (d:=some 63) (x:=oZ f 4) rfl 9 (λ_ _ h=>h) (Z 9) E ?_;simp only[XK,Xt,Xv,Xw];refine anyS.row (i:=7) (d:=some 64) (cs:=wn b) rfl 9 (λ_ _ h=>h) 44 63 f 4 dS rfl R I nSc (λW ⟨l,e,h⟩=>h.2) (Z 9) E ?_;simp only[XK,Xt,Xv,Xw];clear Z;refine anyS.nxt (i:=8) (d:=some 65) (x:=.agg (inL q r t a b).toArray) rfl E ?_;simp only[XK,Xt,Xv,Xw];have hu:m.drew.there (k+1) 0 10:=K6.1.2.2;have y:∀g,g≠k+1->(m.drew.setCells (k+1) 0 (inL q r t a b)).heap[g]? = m.drew.heap[g]?:=λg h=>aE (k+1) _ 0 m.drew g h
 have S7:(m.drew.setCells (k+1) 0 (inL q r t a b)).rangeAt f 0 (wn a)/\(m.drew.setCells (k+1) 0 (inL q r t a b)).rangeAt f 4 (wn b):=⟨λj u hj=>by rw[XW (a:=⟨f,0+j,none⟩) (y f (Ne.symm H.2.2))];exact E.1 j u hj,λj u hj=>by rw[XW (a:=⟨f,4+j,none⟩) (y f (Ne.symm H.2.2))];exact E.2 j u hj⟩
 have r6:Row m.drew (k+1) inZ:=K6.1;have r7:Row (m.drew.setCells (k+1) 0 (inL q r t a b)) (k+1) (inL q r t a b):=r6.put rfl;have b7:kZ w (m.drew.setCells (k+1) 0 (inL q r t a b)):=RG.below_setCells (by rw[hk.out];exact Nat.le_succ _) _ _ _ K6.2.1.drew;have h6:Kq (k+1 < ·) m (m.drew.setCells (k+1) 0 (inL q r t a b)):=⟨by rw[setCells_size];exact Xx _,λg T _=>y g (Zg T)⟩
 have h5:=(K6.2.2.1.keep h6).mono2 (Q':=(w.heap.size<=·)) λg _ T=>by rw[hk.out];omega
 have h1:=(K6.2.2.2.1.keep h6).mono2 (Q':=(w.heap.size<=·)) λg _ T=>by rw[hk.out];omega
 refine anyS.sta (i:=9) (d:=none) rfl 252 (.tmp 4) (.tmp 65) rfl (k+1) 0 (inL q r t a b).toArray (Gz q r t a b) hu iIr S7 ?_;simp only[XK,Xt,Xv,Xw];refine anyS.nxt (i:=10) (d:=some 5) (x:=.bool true) rfl S7 ?_;simp only[XK,Xt,Xv,Xw];refine anyS.fin kR ?_ _;intro WZ hc;have h0:WZ=m.drew.setCells (k+1) 0 (inL q r t a b):=hc;rw[<-h0]at r7 b7 h5 h1;have KZ:=Hid.mk' (YP r7 (YP b7 (YP h5 h1)));clear r6 r7 b7 h6 h5 h1 S7 E y hu hc h0 K6 H R I;go_wp2_with fail
 refine XE (results_ct 4 5 252 rfl KZ.1 rfl rfl uIr iIr) rfl ?_;exact⟨_,rfl,KZ.2.1,q,r,rfl,KZ.2.2.1,KZ.2.2.2⟩
end
section
open SPA
section
variable {P:YG}{ops:Array Yo}{Q:Exit->Act->Xs->Prop}{S:Array Bool->Xs->Prop}
theorem Ws(a:Act){d e:Tmp}(h:d≠e)(v u:Xu):(a.put (some d) v).put (some e) u=(a.put (some e) u).put (some d) v:=by
 unfold XK;dsimp only;rw[yCJ _ _ h]
theorem anyS.calal{i j c:Nat}{m l:Yo}{di dj:Tmp}{f:ZY}{args:Array Xu}{obj:Obj}{k:Array Bool}{a:Act}{w:Xs}{I M:Xu->Xs->Prop}{F:Xu->Nat->Xs->Prop}(t:ops[i]? = some m)(o:ops[j]? = some l)
 (R:XH P f args w (Ret I)) (C:XH P f args (w.alloc obj) (Ret M)) (y:S (k.setIfInBounds j true) (w.alloc obj))
 (T:∀v W',I v W'->S (k.setIfInBounds i true) W'/\S ((k.setIfInBounds i true).setIfInBounds j true) (W'.alloc obj)/\F v W'.heap.size (W'.alloc obj)) (U:∀v W',M v W'->S ((k.setIfInBounds i true).setIfInBounds j true) W'/\F v w.heap.size W')
 (s:∀(b:Act) (W:Xs),(Yb b.eval l).run P W=.ok (.value (jZ W.heap.size)) (W.alloc obj))
 (h:∀v b W',F v b W'->anyS P ops Q S c ((k.setIfInBounds i true).setIfInBounds j true) ((a.put (some di) v).put (some dj) (jZ b)) W')
 (hx:∀W,(Yb a.eval m).run P W=.ok (.enter f args) W:=by intro _;kernel_rfl) (E:∀(b:Nat) (W:Xs),(Yb (a.put (some dj) (jZ b)).eval m).run P W=.ok (.enter f args) W:=by intro _ _;kernel_rfl)
 (x:i≠j:=by decide) (H:di≠dj:=by decide) (J:Yf .any ops k=[i,j]:=by kernel_rfl) (d:Yf .any ops (k.setIfInBounds i true)=[j]:=by kernel_rfl) (D:Yf .any ops (k.setIfInBounds j true)=[i]:=by kernel_rfl)
 (p:m.guard=none:=by rfl) (u:l.guard=none:=by rfl) (n:m.dst=some di:=by kernel_rfl) (r:l.dst=some dj:=by kernel_rfl):anyS P ops Q S (c+2) k a w:=by
 refine⟨λO=>(by rw[J]at O;cases O),λq N=>?_⟩;rw[J]at N;have z:q=i\/q=j:=by simpa using N
 rcases z with rfl|rfl
 ·refine wpOp_step t λK G=>?_
  rw[yES (bK p _)];unfold YV;rw[hx,ZI];refine R.mono ?_;rintro e W' ⟨v,rfl,hR⟩;obtain⟨s1,s2,B⟩:=T v W' hR;refine G _ _ ⟨s1,?_⟩;rw[n];refine anyS.step o d λL g=>?_
  rw[yES (bK u _)];unfold YV;rw[s];show L (XK _ l.dst _) _;rw[r];exact g.out _ _ s2 (h v _ _ B)
 ·refine wpOp_step o λK G=>?_
  rw[yES (bK u _)];unfold YV;rw[s];show K (a.put l.dst _) _;rw[r];refine G _ _ ⟨y,?_⟩;refine anyS.step t D λL g=>?_
  rw[yES (bK p _)];unfold YV;rw[E,ZI];refine C.mono ?_;rintro e W' ⟨v,rfl,hR⟩;obtain⟨s2,B⟩:=U v W' hR;have d:=h v _ _ B;rw[yCJ _ _ x]at s2 d;rw[Ws a H]at d;rw[n];exact g.out _ _ s2 d
end
variable {P:Nat}[NeZero P]{N:Nat}[NeZero N]
theorem Je(C:Fld P)(k:∀r:EC.Pt P,On r->mul N r=none)(g:IsP N)(t:Nat)(L T:Nat->OnP P)(v:Md.Vs Bs (OnP P))(i m:Nat)(j:m=2^(t-(i+1)))(s:Bs)(c:Fin N)(f:chF N ((aD C k).vst (chF N) ivF t L T v i).s (L i) (T i)=(s,c)):
 (aD C k).vst (chF N) ivF t L T v (i+1)=⟨s,(aD C k).ad ((aD C k).ad ((aD C k).vst (chF N) ivF t L T v i).p ((aD C k).ac (c*c) (L i))) ((aD C k).ac (ivF (c*c)) (T i)),(aD C k).fP (ivF c) c m ((aD C k).vst (chF N) ivF t L T v i).g,(aD C k).fP c (ivF c) m ((aD C k).vst (chF N) ivF t L T v i).h⟩:=by
 have b:=SR g ((aD C k).vst (chF N) ivF t L T v i).s (L i) (T i);rw[f]at b;have d:c.val≠0:=λe=>b (by
  have:c=0:=Fin.ext (e.trans (yBw N).symm);show(c*c).val=0;rw[this];show(0%N*(0%N))%N=0;rw[yBw,Nat.zero_mul,yBw])
 rw[Md.Jt,UE g c d b,j];show(aD C k).Fy (chF N) ivF (2^(t-(i+1))) (L i) (T i) ((aD C k).vst (chF N) ivF t L T v i)=_;unfold Md.Fy;rw[f]
end
section
open SPA
variable {P:Nat}[NeZero P]{N:Nat}[NeZero N]
def QR(r k g:Nat):Prop:=g≠r/\(g<k\/k+3<=g)
structure Lk(w W:Xs)(r k kl kr t a b n:Nat)(v sv:Xu)(Lb Rb:Nat->Bs)(L:Bs)(G H:Nat->List (Nat × Bs))(U l:List (Nat × Bs)):Prop where
 on:SP.Only r 0 32 w W
 rk:r<k
 wk:w.heap.size=k
 r0:Row W k (inL kl kr t a b)
 r1:Row W (k+1) [jZ r]
 r2:∃e:Array Xu,v=.agg e/\e.size=3/\e.all (·.oneCell')=true/\Row W (k+2) e.toList
 pl:PtL (QR r k) W kl t Lb
 pr:PtL (QR r k) W kr t Rb
 gr:GRq (QR r k) W v n G H U
 sm:SmQ (QR r k) W sv l
 lg:Holds encB W r 0 L
 ls:L.size=32
section
variable {w W W':Xs}{r k kl kr t a b n:Nat}{v sv:Xu}{Lb Rb:Nat->Bs}{L:Bs}{G H:Nat->List (Nat × Bs)}{U l:List (Nat × Bs)}
theorem Lk.any{d:Bs}(h:Lk w W r k kl kr t a b n v sv Lb Rb L G H U l)(m:SP.Only r 0 32 w W')(kq:Kq (QR r k) W W')(c:∀g,k<=g->g<k+3->W'.heap[g]? = W.heap[g]?)(i:Holds encB W' r 0 d)(f:d.size=32):Lk w W' r k kl kr t a b n v sv Lb Rb d G H U l:=by
 obtain⟨e,o,p,e3,j⟩:=h.r2;exact⟨m,h.rk,h.wk,aS h.r0 kq.size (c k oM oM),aS h.r1 kq.size (c _ oM oM),⟨e,o,p,e3,aS j kq.size (c _ oM oM)⟩,h.pl.keep kq,h.pr.keep kq,h.gr.keep kq,h.sm.keep kq,i,f⟩
theorem Lk.big(h:Lk w W r k kl kr t a b n v sv Lb Rb L G H U l):k+3<=W.heap.size:=by
 obtain⟨e,-,-,-,c⟩:=h.r2;exact c.1
theorem Lk.grow(h:Lk w W r k kl kr t a b n v sv Lb Rb L G H U l)(c:kZ W W'):Lk w W' r k kl kr t a b n v sv Lb Rb L G H U l:=by
 have d:=Holds.lt h.lg (by rw[h.ls];decide);exact h.any (h.on.trans (SP.Only.of_below c rfl d)) (Kq.of_below c) (λg e f=>c.block g (by have:=h.big;omega)) (Holds.below h.lg c d) h.ls
theorem Lk.drew(h:Lk w W r k kl kr t a b n v sv Lb Rb L G H U l):Lk w W.drew r k kl kr t a b n v sv Lb Rb L G H U l:=h.grow ⟨rfl,rfl,rfl,Xx _,λ_ _=>rfl⟩
theorem Lk.say{c:Bs}(h:Lk w W r k kl kr t a b n v sv Lb Rb L G H U l)(d:SP.Only r 0 32 W W')(e:Holds encB W' r 0 c)(f:c.size=32):Lk w W' r k kl kr t a b n v sv Lb Rb c G H U l:=by
 have j:=h.rk;exact h.any (h.on.trans d) (Kq.of_only d λg i=>i.1) (λg m o=>d.block g (by have:=h.big;omega) oM) e f
theorem Lk.qn(h:Lk w W r k kl kr t a b n v sv Lb Rb L G H U l):∀g,W.heap.size<=g->QR r k g:=λg c=>⟨by have:=h.rk;have:=h.big;omega,X0 (by have:=h.big;omega)⟩
theorem Lk.hide{c:Xu}{l':List (Nat × Bs)}(h:Lk w W r k kl kr t a b n v sv Lb Rb L G H U l)(d:SmQ (QR r k) W c l'):Lk w W r k kl kr t a b n v c Lb Rb L G H U l':=⟨h.on,h.rk,h.wk,h.r0,h.r1,h.r2,h.pl,h.pr,h.gr,d,h.lg,h.ls⟩
theorem Lk.next{m:Nat}{e:Array Xu}{f j:Nat->List (Nat × Bs)}(h:Lk w W r k kl kr t a b n v sv Lb Rb L G H U l)(o:GRq (QR r k) W (.agg e) m f j U)(i:e.size=3)(x:e.all (·.oneCell')=true):Lk w (W.setCells (k+2) 0 e.toList) r k kl kr t a b m (.agg e) sv Lb Rb L f j U l:=by
 have c:∀g,g≠k+2->(W.setCells (k+2) 0 e.toList).heap[g]? = W.heap[g]?:=λg u=>aE (k+2) _ 0 W g u
 have d:W.heap.size<=(W.setCells (k+2) 0 e.toList).heap.size:=by rw[setCells_size];exact Xx _
 have kq:Kq (QR r k) W (W.setCells (k+2) 0 e.toList):=⟨d,λg q _=>c g (by have:=q.2;omega)⟩
 have p:=h.rk;obtain⟨z,-,s,-,y⟩:=h.r2;exact⟨jN h.on h.wk h.rk oM,h.rk,h.wk,aS h.r0 d (c k oM),aS h.r1 d (c _ oM),⟨e,rfl,i,x,y.put (by rw[XP,XP,i,s])⟩,h.pl.keep kq,h.pr.keep kq,o.keep kq,h.sm.keep kq,jU h.lg (c r oM),h.ls⟩
end
theorem Vn(c k t a b:Nat)(w:Xs):(Yl 252 (.agg (inL c k t a b).toArray)).run prog w=.ok (jZ w.heap.size) (w.alloc (.cells (inL c k t a b).toArray 252)):=kR
theorem uPL:(prog.underlying 83).map (·.isRow)=some false:=kR
theorem FN{Q:Nat->Prop}{W:Xs}{g n:Nat}{p:Bs}(k:Row W g (wn n++aA p))(b:Q g):SmQ Q W (sZ g 1 1) [(n,p)]:=by
 have e:aR [(n,p)]=wn n++aA p:=by unfold aR;simp
 refine⟨g,1,rfl,Xx _,b,k.1,?_⟩;rw[e];exact k.2.1
theorem EE{k:YG}{o:Yo}{ev:Operand->Xu}{I:Sem Xu}{v:Xu}{w:Xs}(h:I.run k w=.ok v w)(b:Yb ev o=I >>= λv=>pure (ZN v):=by kernel_rfl):(Yb ev o).run k w=.ok (.value v) w:=by
 rw[b,XT,h];rfl
theorem Lk.rd{w W W':Xs}{r k e d t a b n:Nat}{v m:Xu}{f Rb:Nat->Bs}{L:Bs}{G H:Nat->List (Nat × Bs)}{U l:List (Nat × Bs)}(h:Lk w W r k e d t a b n v m f Rb L G H U l)(c:SP.Only r 0 32 W W'){i:Nat}(j:i<t):
 W'.rangeAt (k+1) 0 [jZ r]/\W'.cell? ⟨k,0,none⟩=some (sZ e t t)/\W'.cell? ⟨k,1,none⟩=some (sZ d t t)/\W'.rangeAt e (0+33*i) (aA (f i))/\W'.rangeAt d (0+33*i) (aA (Rb i)):=by
 have p:=h.rk;have kq:Kq (QR r k) W W':=Kq.of_only c λg o=>o.1
 rw[XD];exact⟨(h.r1.only c oM).2.1,(h.r0.only c oM).2.1 0 _ rfl,(h.r0.only c oM).2.1 1 _ rfl,((h.pl.keep kq) i j).2.2,((h.pr.keep kq) i j).2.2⟩
theorem Ut(h:1<N):(-1:Fin N).val=sMi N 0 1:=by
 have k:(1:Fin N).val=1:=by
  show 1%N=1;exact XX h
 have b:(-1:Fin N).val=(N-(1:Fin N).val)%N:=Fin.val_neg' _;rw[b,k];unfold sMi;rw[XD]
omit [NeZero N] in
theorem MQ(C:Fld P){X:EC.Pt P}(c:On X):wr X=o33↔X=none:=by
 rw[<-MR (P:=P)];refine⟨λh=>?_,λh=>by rw[h]⟩;obtain⟨p,k,d⟩:=xT C c;obtain⟨q,e,b⟩:=xT C (jB (P:=P));rw[h,e]at k;injection k with k
 rw[<-d,<-b,k]
theorem UW(C:Fld P)(O:Ord N)(k:∀r:EC.Pt P,On r->mul N r=none)(D:IsP N){Q:Nat->Prop}{c:Nat}{G H:Nat->List (Nat × Bs)}{U l:List (Nat × Bs)}{g h:Nat->OnP P}{u p:OnP P}(A:0<c)(I:c<=64)(hG:Gd N 1 c G g)(x:Gd N 1 c H h)(z:Tl N U u)(J:0<U.length)(B:U.length<=16)(o:Tl N l p)(E:l.length<=200)(a b:Fin N):
 ∃l' f Y,Y.size=33/\(Y=o33↔p=(aD C k).ad ((aD C k).ad ((aD C k).ac a (g 0)) ((aD C k).ac b (h 0))) ((aD C k).ac (a*b) u))/\(∀(W:Xs) (v va n:Xu),GRq Q W v 1 G H U->SLq Q W va 1 (λ_=>a.val)->SLq Q W n 1 (λ_=>b.val)->XH prog 143 #[v,va,n] W (rZ W λe w'=>Sm W.heap.size w' e l')) /\
  (∀(W:Xs) (s m:Xu),Sm 0 W s l'->Sm 0 W m l->XH prog 197 #[s,m] W (rZ W λe w'=>Sm W.heap.size w' e f)) /\
  (∀(W:Xs) (v:Xu),Sm 0 W v f->XH prog 33 #[v] W (rZ W λe w'=>e=pvl Y)):=by
 have K:=tZ (by decide:0<1) A oM hG x z J B;obtain⟨w,f⟩:=KX C k hG x z (d:=U.length) rfl (λ_=>a) (λ_=>b);rw[<-kM]at w f;have j:=w.app C k (o.tm C k (-1));rw[Ut D.1]at j;have y:=(aD C k).QG ((aD C k).hd (λ_=>a) (λ_=>b) g h u 1) p;rw[(aD C k).Ld (λ_=>a) (λ_=>b) g h u]at y j;refine⟨_,_,_,aL _,(MQ C (Subtype.property _)).trans ((Subtype.ext_iff (a2:=(aD C k).zo)).symm.trans y),λW v va n q t F=>GF O 1 c G H U K _ _ (λi _=>a.isLt) (λi _=>b.isLt) v va n W q t F,λW s m q t=>xJ O 0 s m _ l (by rw[f];omega) (by rw[f];omega) oM w.ok.sz o.ok.sz o.ok.lt W (Zh _) q t,λW v hv=>?_⟩;exact j.point C O k (by rw[XC,f];omega) (by rw[XC,XV,f];omega) hv
theorem LG{a b:Bs}(d:a.size=33)(c:b.size=33)(w:Xs):(binOp .eql 51 (pvl a) (pvl b)).run prog w=.ok (.bool (decide (a=b))) w:=by
 have k:(binOp .eql 51 (pvl a) (pvl b)).run prog w=(Op.equal 51 (pvl a) (pvl b) >>= λb=>pure (Value.bool b)).run prog w:=rfl;rw[k,XT,show(Op.equal 51 (pvl a) (pvl b)).run prog w=.ok (decide (a=b)) w from U0 d c w];rfl
theorem Vh(n:Nat)(w:Xs):(Yr 143 1 #[(0,nv n)]).run prog w=.ok (sZ w.heap.size 1 1) (w.alloc (.cells (wn n).toArray 44)):=kR
theorem TS{Q:Nat->Prop}{W:Xs}{g n:Nat}(k:Row W g (wn n))(b:Q g):SLq Q W (sZ g 1 1) 1 (λ_=>n):=⟨g,0,1,rfl,Xx _,b,k.1,λj c=>by
 have:j=0:=oM;subst this;exact k.2.1⟩
theorem NM(C:Fld P)(O:Ord N)(f:∀r:EC.Pt P,On r->mul N r=none)(hP:IsP N)(t:Nat)(ht:t<=6)(D A:Nat->OnP P)(v0:Md.Vs Bs (OnP P))(u:OnP P)(G0 H0:Nat->List (Nat × Bs))(U l0:List (Nat × Bs))(d7:Gd N (2^t) 1 G0 v0.g)(cp:Gd N (2^t) 1 H0 v0.h)(hU:Tl N U u)(cz:0<U.length)(cv:U.length<=16)(kj:Tl N l0 v0.p)(b6:0<l0.length/\l0.length<=150)
 (q Rb:Nat->Bs) (dm:∀j,q j=wP (D j)) (dp:∀j,Rb j=wP (A j)) (r B E:Nat) (a b:Fin N) (n sv:Xu) (w:Xs) (hL:Holds encB w r 0 v0.s) (bf:v0.s.size=32) (G:PtL (·≠r) w B t q) (J:PtL (·≠r) w E t Rb) (hv:GRq (·≠r) w n (2^t) G0 H0 U) (S:SmQ (·≠r) w sv l0) (Bd:Bool) (d0:Bd=true↔(aD C f).MW u a b ((aD C f).vst (chF N) ivF t D A v0 t)) :
 XH prog 163 #[.agg (inL B E t a.val b.val).toArray,lgV r,n,sv] w (Ret λe w'=>SP.Only r 0 32 w w'/\e=.bool Bd):=by
 have hr:=Holds.lt hL (by rw[bf];decide);obtain⟨k,hk⟩:=hE (w.heap.size);obtain⟨e0,d9,dw,ds⟩:=hv.ar;subst d9;obtain⟨w1,k0⟩:=hE (w.alloc (.cells (inL B E t a.val b.val).toArray 252));obtain⟨w2,k1⟩:=hE (w1.alloc (.cells #[jZ r] 159));obtain⟨w3,kp⟩:∃w3,Hid (w2.alloc (.cells e0 150)=w3):=⟨_,rfl⟩
 have z1:w1.heap.size=k+1:=by rw[<-k0.out,XF,hk.out]
 have z2:w2.heap.size=k+2:=by rw[<-k1.out,XF,z1]
 have cy:r<k:=by rw[<-hk.out];exact hr
 have K3:Hid (Lk w w3 r k B E t a.val b.val (2^t) (.agg e0) sv q Rb v0.s G0 H0 U l0):=by
  have b1:kZ w w1:=by rw[<-k0.out];exact aC _ _
  have b2:kZ w1 w2:=by rw[<-k1.out];exact aC _ _
  have L:kZ w2 w3:=by rw[<-kp.out];exact aC _ _
  have r1:Row w1 k (inL B E t a.val b.val):=by rw[<-k0.out,<-hk.out];exact row_new w _ _
  have r2:Row w2 (k+1) [jZ r]:=by rw[<-k1.out,<-z1];exact row_new w1 _ _
  have T:Row w3 (k+2) e0.toList:=by rw[<-kp.out,<-z2];exact row_new w2 e0.toList 150
  have o:kZ w w3:=(b1.trans (b2.mono b1.size)).trans (L.mono (XB b1.size b2.size));have n:∀g,g<w.heap.size->g≠r->QR r k g:=λg hg K=>⟨K,X9 (by rw[<-hk.out];exact hg)⟩
  have kq:∀ {Q:Nat->Prop},Kq Q w w3:=Kq.of_below o;have H:SmQ (QR r k) w sv l0:=by
   obtain⟨g,c,h1,h2,V,M,R⟩:=S;exact⟨g,c,h1,h2,n g M V,M,R⟩
  exact⟨SP.Only.of_below o rfl hr,cy,hk.out,(r1.below b2).below L,r2.below L,⟨e0,rfl,dw,ds,T⟩,(G.mono2 n).keep kq,(J.mono2 n).keep kq,(hv.mono2 n).keep kq,H.keep kq,Holds.below hL o hr,bf⟩
 obtain⟨vI,hvI⟩:=hE (X6 (inL B E t a.val b.val).toArray);obtain⟨vl,b8⟩:=hE (lgV r);obtain⟨vG,c6⟩:=hE (X6 e0);have B1:Hid ((Yl 252 vI).run prog w=.ok (jZ k) w1):=by rw[<-hvI.out,<-k0.out,<-hk.out];exact Vn B E t a.val b.val w
 have B2:Hid ((Yl 159 vl).run prog w1=.ok (.pointer (some ⟨k+1,0,none⟩)) w2):=by rw[<-b8.out,<-k1.out,<-z1];exact O1 r w1
 have B3:Hid ((Yl 150 vG).run prog w2=.ok (.pointer (some ⟨k+2,0,none⟩)) w3):=by
  obtain⟨n,a2,J,G⟩:∃a b c,e0=#[a,b,c]:=by
   obtain⟨x1,x2,H,e,-⟩:=hv.ex;injection e with e
   exact⟨x1,x2,H,e⟩
  rw[<-c6.out,<-kp.out,<-z2,G];exact Dl n a2 J w2
 have K4:Hid (∃v G H l,Gd N (2^(t-0)) (2^0) G ((aD C f).vst (chF N) ivF t D A v0 0).g/\Gd N (2^(t-0)) (2^0) H ((aD C f).vst (chF N) ivF t D A v0 0).h/\Tl N l ((aD C f).vst (chF N) ivF t D A v0 0).p/\l.length=l0.length+2*0/\Lk w w3 r k B E t a.val b.val (2^(t-0)) v sv q Rb ((aD C f).vst (chF N) ivF t D A v0 0).s G H U l):=⟨_,G0,H0,l0,d7,cp,kj,rfl,K3.out⟩
 have R:Hid ((∀j,q j=wP (D j))/\∀j,Rb j=wP (A j)):=⟨dm,dp⟩
 have K:=mk7 C O hP hU cz cv ht;have kk:=Hid.mk' b6;clear b6;have ck:=Hid.mk' d0;have c0:=K3.r0.2.1 0 _ rfl;rw[hvI.out,b8.out,c6.out];go_enter func163,ntmps163;go_wp2_with (first|(refine aG (u:=vI) (v:=jZ k) (w':=w1) rfl 252 (.tmp 0) rfl ?_ ?_ ?_;rfl;exact B1.out)|(refine aG (u:=vl) (v:=.pointer (some ⟨k+1,0,none⟩)) (w':=w2) rfl 159 (.tmp 1) rfl ?_ ?_ ?_;rfl;exact B2.out)|(refine aG (u:=vG) (v:=.pointer (some ⟨k+2,0,none⟩)) (w':=w3) rfl 150 (.tmp 2) rfl ?_ ?_ ?_;rfl;exact B3.out)|fail)
 go_loopg [3,16] t (λm s3 s16 W=>∃i:Nat,i+m=t/\s16=iZ i/\Hid (∃v G H l,Gd N (2^(t-i)) (2^i) G ((aD C f).vst (chF N) ivF t D A v0 i).g/\Gd N (2^(t-i)) (2^i) H ((aD C f).vst (chF N) ivF t D A v0 i).h/\Tl N l ((aD C f).vst (chF N) ivF t D A v0 i).p/\l.length=l0.length+2*i/\Lk w W r k B E t a.val b.val (2^(t-i)) v s3 q Rb ((aD C f).vst (chF N) ivF t D A v0 i).s G H U l))
 case atStart=>exact⟨0,oM,rfl,K4⟩
 case round =>
  obtain⟨i,e2,rfl,KM⟩:=hrel;by_cases hi:i<t
  ·have da:(i:Int)<(t:Int):=oM;obtain⟨v,G,H,l,hG,hH,hl,kt,hR⟩:=KM.out;have HI:=Hid.mk' hi;obtain⟨m,hm⟩:∃m,m=2^(t-(i+1)):=⟨_,rfl⟩
   have kv:2^(t-i)=m+m:=by rw[hm,show t-i=t-(i+1)+1 by omega,Zf];omega
   have bo:0<m:=by rw[hm];exact yAM dC
   obtain⟨c,hc⟩:∃c,c=2^i:=⟨_,rfl⟩
   have k7:0<c:=by rw[hc];exact yAM dC
   have br:c*(m+m)<=64:=by
    rw[<-kv,hc,<-Nat.pow_add,show i+(t-i)=t by omega];exact XB (Y4 dC K.2.2.2.2.2.2) dC
   have HE:Hid (2^(t-(i+1))=m/\2^(i+1)=c+c):=⟨hm.symm,by rw[Zf,hc];omega⟩
   rw[kv,<-hc]at hG hH;rw[kv]at hR;have d6:=λ(s:Bs) (x:Fin N)=>Je C f K.2.2.1 t D A v0 i m hm s x
   obtain⟨sx,n,kh,k3⟩:=LX K.2.1 K.2.2.1 r ((aD C f).vst (chF N) ivF t D A v0 i).s (D i) (A i) (q i) (Rb i) (R.1 i) (R.2 i);have c4:=d6 sx n kh.1;have HS:=Hid.mk' c4;have dy:(q i).size=33:=by rw[R.1 i];exact aL _
   have cq:(Rb i).size=33:=by rw[R.2 i];exact aL _
   have k6:=Hid.mk' (YP dy cq);generalize dx:(aD C f).vst (chF N) ivF t D A v0 i=Vi at hG hH hl hR kh k3 HS;have HG:=Hid.mk' (YP hG (YP hH (YP hl (YP kt (YP bo (YP k7 br))))));clear hG hH hl kt bo k7 br dx;have HR:=Hid.mk' hR;clear hR;go_wp2_with fail
   have R0:=HR.drew;have h7:=λ(W:Xs) (hO:SP.Only r 0 32 wr.drew W)=>R0.rd hO HI.out
   have O0:SP.Only r 0 32 wr.drew wr.drew:=SP.Only.of_below (XM _ _) rfl (Holds.lt R0.lg (by rw[R0.ls];decide));obtain⟨dL,ci,b7⟩:=XA.1 uLg;obtain⟨dP,kb,ke⟩:=XA.1 uCP;have be:(prog.info? 51).map (·.size)=some (aA (q i)).length:=by rw[aB k6.1];exact iCP
   have bq:(prog.info? 51).map (·.size)=some (aA (Rb i)).length:=by rw[aB k6.2];exact iCP
   refine anyS.begin (λ_ W=>SP.Only r 0 32 wr.drew W) kR ?_;have bS:∀(p:Nat),Bef (λ_ W=>SP.Only r 0 32 wr.drew W) p wr.drew:=λp=>⟨#[],by simp,O0⟩
   refine anyS.row (i:=0) (d:=some 19) (cs:=[jZ r]) rfl 13 (λ_ _ h=>h) 159 5 (k+1) 0 dL rfl ci b7 iLg (λW ⟨l,e,h⟩=>(h7 W h).1) (bS 13) O0 ?_;simp only[XK,Xt,Xv,Xw];refine anyS.val (i:=1) (d:=some 20) (x:=jZ k) rfl 13 (λ_ _ h=>h) (bS 13) O0 ?_;simp only[XK,Xt,Xv,Xw];refine anyS.cel (i:=2) (d:=some 21) (x:=sZ B t t) rfl 13 (λ_ _ h=>h) 83 20 k 0 rfl uPL (λW ⟨l,e,h⟩=>(h7 W h).2.1) (bS 13) O0 ?_;simp only[XK,Xt,Xv,Xw];refine anyS.val (i:=3) (d:=some 22) (x:=iZ i) rfl 13 (λ_ _ h=>h) (bS 13) O0 ?_;simp only[XK,Xt,Xv,Xw];refine anyS.val (i:=4) (d:=some 23) (x:=.pointer (some ⟨B,0+33*i,none⟩)) rfl 13 (λ_ _ h=>h) (bS 13) O0 ?_ (λW=>EE (I:=Yi 83 (sZ B t t) (iZ i)) (atP B 0 t t i HI.out W));simp only[XK,Xt,Xv,Xw];refine anyS.row (i:=5) (d:=some 24) (cs:=aA (q i)) rfl 13 (λ_ _ h=>h) 51 23 B (0+33*i) dP rfl kb ke be (λW ⟨l,e,h⟩=>(h7 W h).2.2.2.1) (bS 13) O0 ?_;simp only[XK,Xt,Xv,Xw];refine anyS.val (i:=6) (d:=some 25) (x:=oZ k 1) rfl 13 (λ_ _ h=>h) (bS 13) O0 ?_;simp only[XK,Xt,Xv,Xw];refine anyS.cel (i:=7) (d:=some 26) (x:=sZ E t t) rfl 13 (λ_ _ h=>h) 83 25 k 1 rfl uPL (λW ⟨l,e,h⟩=>(h7 W h).2.2.1) (bS 13) O0 ?_;refine anyS.val (i:=8) (d:=some 27) (x:=iZ i) rfl 13 (λ_ _ h=>h) (bS 13) O0 ?_;refine anyS.val (i:=9) (d:=some 28) (x:=.pointer (some ⟨E,0+33*i,none⟩)) rfl 13 (λ_ _ h=>h) (bS 13) O0 ?_ (λW=>EE (I:=Yi 83 (sZ E t t) (iZ i)) (atP E 0 t t i HI.out W));refine anyS.row (i:=10) (d:=some 29) (cs:=aA (Rb i)) rfl 13 (λ_ _ h=>h) 51 28 E (0+33*i) dP rfl kb ke bq (λW ⟨l,e,h⟩=>(h7 W h).2.2.2.2) (bS 13) O0 ?_;have h6:r<wr.drew.heap.size:=Holds.lt R0.lg (by rw[R0.ls];decide);have bA:=aC wr.drew (.cells #[uZ 0,uZ 0,uZ 0,uZ 0] 44);have oA:SP.Only r 0 32 wr.drew (wr.drew.alloc (.cells #[uZ 0,uZ 0,uZ 0,uZ 0] 44)):=SP.Only.of_below bA rfl h6;refine anyS.calal (i:=11) (j:=12) (di:=30) (dj:=10) (obj:=.cells #[uZ 0,uZ 0,uZ 0,uZ 0] 44) (F:=λv b W'=>v=nv n.val/\SP.Only r 0 32 wr.drew W'/\Holds encB W' r 0 sx/\wr.drew.heap.size<=b/\Row W' b [uZ 0,uZ 0,uZ 0,uZ 0]) rfl rfl (k3 wr.drew R0.lg R0.ls) (k3 _ (Holds.below R0.lg bA h6) R0.ls) oA ?_ ?_ (by intro _ _;kernel_rfl) ?_
   ·rintro v W' ⟨hO,hH,rfl⟩;have o:=aC W' (.cells #[uZ 0,uZ 0,uZ 0,uZ 0] 44);have J:=Xz h6 hO.size;exact⟨hO,hO.trans (SP.Only.of_below o rfl J),rfl,hO.trans (SP.Only.of_below o rfl J),Holds.below hH o J,hO.size,row_new W' _ _⟩
   ·rintro v W' ⟨hO,hH,rfl⟩;exact⟨oA.trans hO,rfl,oA.trans hO,hH,Xx _,(row_new wr.drew [uZ 0,uZ 0,uZ 0,uZ 0] 44).only hO (Zg h6)⟩
   ·rintro xv k5 W4 ⟨rfl,bz,bi,k4,kg⟩;have ki:SP.Only r 0 32 wr.drew (W4.setCells k5 0 (wn n.val)):=dX bz h6 k4 0;refine anyS.sta (i:=13) (d:=none) rfl 44 (.tmp 10) (.tmp 30) rfl k5 0 (wn n.val).toArray (aI _) kg.2.2 nSc ki ?_;simp only[XK,Xt,Xv,Xw];refine anyS.fin kR ?_ _;intro W5 bn;have hq:=bn;have R5:Lk w W5 r k B E t a.val b.val (m+m) v u3 q Rb sx G H U l:=by rw[hq];exact R0.say ki (eU bi oM) kh.2
    have r5:Row W5 k5 (wn n.val):=by rw[hq];exact kg.put rfl
    obtain⟨x,h0⟩:=hE (n.val);obtain⟨J,Y⟩:=hE ((n*n).val);obtain⟨xi,he⟩:=hE ((ivF (n*n)).val);have dz:Hid (∀W:Xs,XH prog 26 #[nv x,nv x] W (rZ W λe w'=>e=nv J)):=by
     rw[<-h0.out,<-Y.out];exact λW=>gV K.2.1 n.val n.val n.isLt n.isLt W
    have db:Hid (∀W:Xs,XH prog 144 #[nv J] W (rZ W λe w'=>e=nv xi)):=by
     rw[<-Y.out,<-he.out];exact λW=>wH K.2.1 (n*n).val (n*n).isLt W
    rw[h0.out]at r5;rw[h0.out];have K5:=Hid.mk' (YP R5 r5);clear R5 r5 hq bn ki bz bi k4 kg R0 h7 O0 oA bA h6 HR k3;obtain⟨vx,hp⟩:=hE (nv x);have bt:Hid (∀W:Xs,XH prog 26 #[vx,vx] W (rZ W λe w'=>e=nv J)):=by rw[<-hp.out];exact dz.out
    obtain⟨dS,kf,ka⟩:=XA.1 rSc;rw[hp.out];go_wp2_with (first|(refine ldR 10 K5.2.2.1 hp rSc nSc ?_)|fail)
    refine(bt W5).mono ?_;rintro e W6 ⟨uu,rfl,b5,rfl⟩;obtain⟨kn,hn⟩:=hE (W6.heap.size);obtain⟨W7,bs⟩:=hE (W6.alloc (.cells #[uZ 0,uZ 0,uZ 0,uZ 0] 44));obtain⟨X,ku⟩:=hE (W7.setCells kn 0 (wn J));have F7:Hid (Row W7 kn [uZ 0,uZ 0,uZ 0,uZ 0]/\kZ W6 W7):=by rw[<-bs.out,<-hn.out];exact⟨row_new W6 _ _,aC _ _⟩
    have c3:kZ W5 X:=by
     have:kZ W6 X:=by rw[<-ku.out];exact RG.below_setCells (by rw[hn.out];exact Xx _) _ _ _ F7.2
     exact b5.trans (this.mono b5.size)
    have K8:Hid (Lk w X r k B E t a.val b.val (m+m) v u3 q Rb sx G H U l/\Row X k5 (wn x)/\Row X kn (wn J)):=⟨K5.1.grow c3,K5.2.below c3,by rw[<-ku.out];exact F7.1.put rfl⟩
    obtain⟨vq,kw⟩:=hE (nv J);rw[kw.out];go_wp2_with (first|(refine alR 11 hn bs ?_)|(refine stR 11 ku kw F7.1.2.2 nSc (aI J) ?_)|fail)
    have d5:∀(W:Xs),kZ X W->∀g,W.heap.size<=g->QR r k g:=λW o g hg=>K8.1.qn g (XB o.size hg)
    have o8:∀(W:Xs),kZ X W->SP.Only r 0 32 X W:=λW o=>SP.Only.of_below o rfl (Holds.lt K8.1.lg (by rw[K8.1.ls];decide))
    have hu:=Hid.mk' (λ(W:Xs) (o:kZ X W)=>K8.1.rd (o8 W o) HI.out);have h8:=Hid.mk' d5;have tk:=HG.2.2.1.ok;have bk:TOk N [(J,q i)]:=by rw[<-Y.out,R.1 i];exact(Tl.pt C f (n*n) (D i)).ok
    have d4:TOk N [(xi,Rb i)]:=by rw[<-he.out,R.2 i];exact(Tl.pt C f (ivF (n*n)) (A i)).ok
    have e1:l.length<=200:=by have:=HG.2.2.2.1;have:=K.2.2.2.2.2.2;have:=HI.out;have:=kk.2;omega
    have kj:0<l.length:=by have:=HG.2.2.2.1;have:=kk.1;omega
    have c5:=Hid.mk' (λW=>lJ (q i) k6.1 J W);have bm:=Hid.mk' (λW=>lJ (Rb i) k6.2 xi W);have cf:=Hid.mk' (λ(s1 s2:Xu) (W:Xs) (h1:Sm 0 W s1 l) (h2:Sm 0 W s2 [(J,q i)])=>tB 0 s1 s2 l [(J,q i)] kj oM (by simp) tk.sz bk.sz W h1 h2);have c9:=Hid.mk' (λ(s1 s2:Xu) (W:Xs) (h1:Sm 0 W s1 (l++[(J,q i)])) (h2:Sm 0 W s2 [(xi,Rb i)])=>tB 0 s1 s2 (l++[(J,q i)]) [(xi,Rb i)] (by simp) (by simp;omega) (by simp) (tk.app bk).sz d4.sz W h1 h2);rw[<-kw.out];refine(gwL [pE u3,pE (jZ k),pE (sZ B t t),pE (iZ i),pE (.pointer (some ⟨B,0+33*i,none⟩)),pE (pvl (q i)),pE (nv J),pM (QR r k) [(J,q i)],pM (QR r k) (l++[(J,q i)]),pE (oZ k 1),pE (sZ E t t),pE (iZ i),pE (.pointer (some ⟨E,0+33*i,none⟩)),pE (pvl (Rb i)),pE (nv J),pE (nv xi),pM (QR r k) [(xi,Rb i)],pM (QR r k) (l++[(J,q i)]++[(xi,Rb i)])] (λW=>kZ X W) (λW W' hb h=>h.trans (hb.mono h.size))).tail2 18 kR kR kR ⟨
     gO 3 u3,
     gO 4 (jZ k),
     fF 83 1 35 k 0 (sZ B t t) uPL (λx W h=>h) (λW o=>(hu W o).2.1) (λ_=>rfl),
     gO 9 (iZ i),
     RG.gX 2 36 3 37 (atP B 0 t t i HI.out),
     gLr 4 38 (λW o=>(hu W o).2.2.2.1) uCP be,
     gLo 11 (λW o=>RG.range_below K8.2.2.2.1 o K8.2.2.1) rSc nSc,
     eF 5 39 6 40 32 (λx y=>#[x,y]) (λz y W hx M o=>by
      obtain rfl:z=pvl (q i):=hx;obtain rfl:y=nv J:=M;refine(c5 W).mono ?_;rintro e W' ⟨uu,rfl,hb,g,rfl,hg,L⟩;exact⟨_,rfl,hb,FN L (h8 W o g hg)⟩),
     eF 0 34 7 41 31 (λx y=>#[x,y]) (λz y W hx M o=>by
      obtain rfl:z=u3:=hx;have M:=M;refine(cf z y W ((K8.1.grow o).sm.sm) M.sm).mono ?_;rintro e W' ⟨uu,rfl,hb,S⟩;exact⟨_,rfl,hb,S.q.mono λg hg=>h8.out W o g hg⟩),
     gP 4 (jZ k) (oZ k 1),
     fF 83 9 43 k 1 (sZ E t t) uPL (λx W h=>h) (λW o=>(hu W o).2.2.1) (λ_=>rfl),
     gO 9 (iZ i),
     RG.gX 10 44 11 45 (atP E 0 t t i HI.out),
     gLr 12 46 (λW o=>(hu W o).2.2.2.2) uCP bq,
     gLo 11 (λW o=>RG.range_below K8.2.2.2.1 o K8.2.2.1) rSc nSc,
     oG 14 48 144 (λx=>#[x]) (λz W hx o=>by
      obtain rfl:z=nv J:=hx;exact db.out W),
     eF 13 47 15 49 32 (λx y=>#[x,y]) (λz y W hx M o=>by
      obtain rfl:z=pvl (Rb i):=hx;obtain rfl:y=nv xi:=M;refine(bm W).mono ?_;rintro e W' ⟨uu,rfl,hb,g,rfl,hg,L⟩;exact⟨_,rfl,hb,FN L (h8 W o g hg)⟩),
     eF 8 42 16 50 31 (λx y=>#[x,y]) (λz y W hx M o=>by
      have hx:=hx;have M:=M;refine(c9 z y W hx.sm M.sm).mono ?_;rintro e W' ⟨uu,rfl,hb,S⟩;exact⟨_,rfl,hb,S.q.mono λg hg=>h8.out W o g hg⟩),yEU⟩ (XM _ _).drew ?_
    intro V W9 bp ko;have kc:=bp 17 dC;have K9:=mk2 ((K8.1.grow ko).hide kc) (K8.2.1.below ko);dsimp only[bY,YH,ZQ,ZR];generalize V 17=s17 at K9⊢;clear kc bp ko K8 hu h8 c5 bm cf c9;generalize V 0=y0;generalize V 1=y1;generalize V 2=y2;generalize V 3=y3;generalize V 4=y4;generalize V 5=y5;generalize V 6=y6;generalize V 7=y7;generalize V 8=y8;generalize V 9=y9;generalize V 10=ya;generalize V 11=yb;generalize V 12=yc;generalize V 13=yd;generalize V 14=ye;generalize V 15=yf;generalize V 16=yg;clear V;obtain⟨ev,k2,M,k8,Z⟩:=K9.1.r2;have bh:GOk N (m+m) c G H U:=tZ (by have:=HG.2.2.2.2.1;omega) HG.2.2.2.2.2.1 HG.2.2.2.2.2.2 HG.1 HG.2.1 K.2.2.2.1 K.2.2.2.2.1 K.2.2.2.2.2.1;obtain⟨xo,k9⟩:∃x,Hid ((ivF n).val=x):=⟨_,rfl⟩
    have bg:x<N:=by rw[<-h0.out];exact n.isLt
    have c7:sIn N x=xo:=by rw[<-h0.out,<-k9.out];rfl
    have hw:=GK K.2.1 m c HG.2.2.2.2.1 G H U bh x bg v W9 K9.1.qn K9.1.gr;rw[c7]at hw;obtain⟨yv,ha⟩:∃y,Hid (v=y):=⟨_,rfl⟩
    have L:Hid (X6 ev.toList.toArray=yv/\Row W9 (k+2) ev.toList/\(prog.info? 150).map (·.size)=some ev.toList.length/\ev.size=3):=⟨k2.symm.trans ha.out,Z,by rw[XP,M];exact iGr,M⟩
    rw[ha.out,hp.out]at hw;have dk:=Hid.mk' hw;obtain⟨dG,S,T⟩:=XA.1 uGr;have cj:Hid (prog.underlying 150=some dG/\dG.isRow=true):=⟨S,T⟩
    clear k2 M k8 Z bh bg c7 hw S T;go_wp2_with (first|(refine Yv rfl 150 (.tmp 6) rfl (k+2) 0 ?_ ev.toList dG ?_ ?_ ?_ ?_ ?_;rfl;exact L.2.1.2.1;exact cj.1;exact cj.2;exact L.2.2.1;rw[L.1])|(refine ldR 10 K9.2.2.1 hp rSc nSc ?_)|fail)
    refine dk.mono ?_;rintro e Wa ⟨vf,rfl,cg,bd⟩;obtain⟨ef,df,h9,kd⟩:=bd.ar;subst df;have La:=(K9.1.grow cg).next bd h9 kd;obtain⟨Wb,cn⟩:∃W,Hid (Wa.setCells (k+2) 0 ef.toList=W):=⟨_,rfl⟩
    rw[cn.out]at La;have b4:Hid (Wa.there (k+2) 0 ef.size/\(prog.info? 150).map (·.size)=some ef.size/\ef.all (·.oneCell')=true):=by
     refine⟨?_,by rw[h9];exact iGr,kd⟩;rw[h9];have:=(L.2.1.below cg).2.2;rw[XP,L.2.2.2]at this;exact this
    have bv:Hid (∃v G H l,Gd N (2^(t-(i+1))) (2^(i+1)) G ((aD C f).vst (chF N) ivF t D A v0 (i+1)).g/\Gd N (2^(t-(i+1))) (2^(i+1)) H ((aD C f).vst (chF N) ivF t D A v0 (i+1)).h/\Tl N l ((aD C f).vst (chF N) ivF t D A v0 (i+1)).p/\l.length=l0.length+2*(i+1)/\Lk w Wb r k B E t a.val b.val (2^(t-(i+1))) v s17 q Rb ((aD C f).vst (chF N) ivF t D A v0 (i+1)).s G H U l):=by
     show ∃v G H l,_;rw[HS.out,HE.1,HE.2];have g1:=HG.1.fold C f (ivF n) n;have g2:=HG.2.1.fold C f n (ivF n);rw[h0.out,k9.out]at g1 g2;have tl:=(HG.2.2.1.app C f (Tl.pt C f (n*n) (D i))).app C f (Tl.pt C f (ivF (n*n)) (A i));rw[Y.out,he.out]at tl;have ct:Tl N (l++[(J,q i)]++[(xi,Rb i)]) ((aD C f).ad ((aD C f).ad Vi.p ((aD C f).ac (n*n) (D i))) ((aD C f).ac (ivF (n*n)) (A i))):=by rw[R.1 i,R.2 i];exact tl
     exact⟨_,_,_,_,g1,g2,ct,by have:=HG.2.2.2.1;simp;omega,La⟩
    obtain⟨vo,bu⟩:=hE (X6 ef);rw[bu.out];go_wp2_with (first|(refine X8 rfl 150 (.tmp 6) _ rfl (k+2) 0 ef ?_ ?_ ?_ ?_ ?_ ?_;rfl;exact bu.symm;exact b4.1;exact b4.2.1;exact b4.2.2;rw[cn.out])|fail)
    go_roundg (gk-1)
    case measure=>have:=HI.out;omega
    case rel=>exact⟨i+1,by have:=HI.out;omega,rfl,bv⟩
  ·have da:¬(i:Int)<(t:Int):=oM;have d1:i=t:=oM;obtain⟨v,G,H,l,hG,hH,hl,kt,hR⟩:=KM.out;subst d1;rw[Nat.sub_self,Nat.pow_zero]at hG hH hR;have k7:0<2^i:=yAM dC;have cd:2^i<=64:=XB (Y4 dC K.2.2.2.2.2.2) dC;obtain⟨l1,l2,Y,d3,dh,cH,cM,cP⟩:=UW (Q:=QR r k) C K.2.1 f K.2.2.1 k7 cd hG hH K.2.2.2.1 K.2.2.2.2.1 K.2.2.2.2.2.1 hl (by have:=K.2.2.2.2.2.2;have:=kk.2;omega) a b;have dd:decide (Y=o33)=Bd:=by
    have h2:=dh.trans ck.symm;cases Bd with
    | true=>exact decide_eq_true (h2.2 rfl)
    | false=>exact decide_eq_false λh=>Bool.false_ne_true (h2.1 h)
   obtain⟨ev,k2,M,k8,Z⟩:=hR.r2;obtain⟨g1,km⟩:=hE (wr.heap.size);obtain⟨o,V⟩:=hE (wr.alloc (.cells (wn a.val).toArray 44));obtain⟨g2,J⟩:∃g,Hid (o.heap.size=g):=⟨_,rfl⟩
   obtain⟨W2,X⟩:∃W,Hid (o.alloc (.cells (wn b.val).toArray 44)=W):=⟨_,rfl⟩
   have b1:kZ wr o:=by rw[<-V.out];exact aC _ _
   have b2:kZ o W2:=by rw[<-X.out];exact aC _ _
   have r1:Row o g1 (wn a.val):=by rw[<-V.out,<-km.out];exact row_new wr _ _
   have r2:Row W2 g2 (wn b.val):=by rw[<-X.out,<-J.out];exact row_new o _ _
   have L1:=hR.grow b1;have L2:=L1.grow b2;have q1:QR r k g1:=by rw[<-km.out];exact hR.qn _ (Xx _)
   have q2:QR r k g2:=by rw[<-J.out];exact L1.qn _ (Xx _)
   have c8:=cH W2 v _ _ L2.gr (TS (r1.below b2) q1) (TS r2 q2);obtain⟨yv,ha⟩:∃y,Hid (v=y):=⟨_,rfl⟩
   obtain⟨va,bj⟩:∃y,Hid (nv a.val=y):=⟨_,rfl⟩
   obtain⟨vb,bl⟩:∃y,Hid (nv b.val=y):=⟨_,rfl⟩
   rw[ha.out]at c8;have ra:∀ {W:Xs},Row W k (inL B E i a.val b.val)->W.rangeAt k 2 (wn a.val)/\W.rangeAt k 6 (wn b.val):=λhW=>⟨λj z n=>by
    have:=hW.2.1 (2+j) z (by
     have hj:j<4:=(XG.1 n).1;match j,hj with
     | 0,_=>exact n
     | 1,_=>exact n
     | 2,_=>exact n
     | 3,_=>exact n
     | j+4,h=>omega)
    rw[XD]at this;exact this,λj z n=>by
    have:=hW.2.1 (6+j) z (by
     have hj:j<4:=(XG.1 n).1;match j,hj with
     | 0,_=>exact n
     | 1,_=>exact n
     | 2,_=>exact n
     | 3,_=>exact n
     | j+4,h=>omega)
    rw[XD]at this;exact this⟩
   have S1:Hid ((Yr 143 1 #[(0,va)]).run prog wr=.ok (sZ g1 1 1) o):=by rw[<-bj.out,<-km.out,<-V.out];exact Vh a.val wr
   have S2:Hid ((Yr 143 1 #[(0,vb)]).run prog o=.ok (sZ g2 1 1) W2):=by rw[<-bl.out,<-J.out,<-X.out];exact Vh b.val o
   have kx:=mk3 ((ra hR.r0).1) ((ra L1.r0).2) Z.2.1;have L:Hid (X6 ev.toList.toArray=yv/\(prog.info? 150).map (·.size)=some ev.toList.length):=⟨k2.symm.trans ha.out,by rw[XP,M];exact iGr⟩
   obtain⟨dG,S,T⟩:=XA.1 uGr;obtain⟨dS,kf,ka⟩:=XA.1 rSc;have HD:Hid ((prog.underlying 150=some dG/\dG.isRow=true)/\prog.underlying 44=some dS/\dS.isRow=true):=⟨⟨S,T⟩,kf,ka⟩
   have de:=Hid.mk' c8;have ky:=Hid.mk' (YP cM cP);have co:=Hid.mk' L2;obtain⟨vz,d2⟩:=hE (X6 z33.toArray);obtain⟨vy,ba⟩:=hE (pvl Y);rw[ba.out]at ky;have HZ:Hid (∀W,(binOp .eql 51 vy vz).run prog W=.ok (.bool Bd) W/\(Instr.build 51 #[]).run prog W=.ok vz W/\(eqGuard .eql 51 (.tmp 67) (.tmp 68) vy vz).run prog W=.ok () W):=by
    rw[<-d2.out,<-ba.out,<-dd];exact λW=>⟨by rw[Ol];exact LG d3 rfl W,Qg W,by unfold pvl;kernel_rfl⟩
   go_wp2_with (first|(refine Yv rfl 150 (.tmp 6) rfl (k+2) 0 ?_ ev.toList dG ?_ ?_ ?_ ?_ ?_;rfl;exact kx.2.2;exact HD.1.1;exact HD.1.2;exact L.2;rw[L.1])|(refine ldR 57 kx.1 bj rSc nSc ?_)|(refine ldR 60 kx.2.1 bl rSc nSc ?_)|(refine jK (v:=sZ g1 1 1) (w':=o) rfl 143 1 _ rfl #[(0,va)] ?_ ?_ ?_;kernel_rfl;exact S1.out)|(refine jK (v:=sZ g2 1 1) (w':=W2) rfl 143 1 _ rfl #[(0,vb)] ?_ ?_ ?_;kernel_rfl;exact S2.out)|fail)
   refine de.mono ?_;rintro e W3 ⟨s1,rfl,dq,cu⟩;have L3:=co.grow dq;have kz:=Hid.mk' (YP L3 (show Sm 0 W3 s1 l1 from by
    obtain⟨g,c,x1,x2,-,x4⟩:=cu;exact⟨g,c,x1,x2,Zh _,x4⟩))
   go_wp2_with fail
   refine(ky.1 W3 s1 u3 kz.2 kz.1.sm.sm).mono ?_;rintro e W4 ⟨s2,rfl,k4,du⟩;have L4:=kz.1.grow k4;have bc:=Hid.mk' (YP L4 (show Sm 0 W4 s2 l2 from by
    obtain⟨g,c,x1,x2,-,x4⟩:=du;exact⟨g,c,x1,x2,Zh _,x4⟩))
   go_wp2_with fail
   refine(ky.2 W4 s2 bc.2).mono ?_;rintro e W5 ⟨uu,rfl,dl,d8⟩;have b9:=d8.symm;subst b9;have L5:=Hid.mk' (bc.1.grow dl).on;go_wp2_with (first|(refine mE (v:=vz) (w':=W5) rfl 51 _ rfl #[] ?_ ?_ ?_;kernel_rfl;exact(HZ W5).2.1)|(refine bF (v:=.bool Bd) (w':=W5) rfl (.binOp .eql 51 (.tmp 67) (.tmp 68) 51) rfl ?_ ?_;exact EE (I:=eqGuard .eql 51 (.tmp 67) (.tmp 68) vy vz >>= λ_=>binOp .eql 51 vy vz) (by rw[XT,(HZ W5).2.2];exact(HZ W5).1))|fail)
   go_ret;exact⟨_,rfl,L5.out,rfl⟩
end
section
open SPA
variable {P:Nat}[NeZero P]{N:Nat}
noncomputable def gPG (C:Fld P):OnP P:=⟨gG P,C5 C⟩
noncomputable def hPV (C:Fld P):OnP P:=lPt C iO []
theorem OL(n m:Nat):cmt P n m=EC.add (mul n (.some (hpt P iO []))) (mul m (gG P)):=by
 unfold cmt;generalize (.some (hpt P iO []):EC.Pt P)=H;show EC.add (EC.add none (eG ((n:Nat):Int) H)) (eG ((m:Nat):Int) (gG P))=_;rw[jS];rfl
section
variable [NeZero N]
theorem zA(C:Fld P)(k:∀r:EC.Pt P,On r->mul N r=none)(a b:Fin N):wr (cmt P a.val b.val)=wP ((aD C k).cm (hPV C) (gPG C) a b):=by
 rw[OL];rfl
structure RvL(C:Fld P)(hord:∀r:EC.Pt P,On r->mul N r=none)(R:Rv N)(V A S C1 C2 L3 L6 L8:Bs):Prop where
 eV:V=wP (R.pV (aD C hord) (gPG C) (hPV C))
 eA:A=wP (R.pA (aD C hord) (gPG C) (gPt C ⟨#[108,101,102,116]⟩) (gPt C ⟨#[114,105,103,104,116]⟩))
 eS:S=wP (R.pS (aD C hord) (gPG C) (gPt C ⟨#[108,101,102,116]⟩) (gPt C ⟨#[114,105,103,104,116]⟩))
 e1:C1=wP (R.p1 (aD C hord) (gPG C) (hPV C))
 e2:C2=wP (R.p2 (aD C hord) (gPG C) (hPV C))
 l3:L3=bgL V R.n A S
 y:R.y=kX N L3
 z:R.z=kX N (aX L3)
 l6:L6=mdL (aX (aX L3)) C1 C2
 x:R.x=kX N L6
 l8:L8=enL (aX L6) R.tau.val R.mu.val R.t.val
 w:R.w=kX N L8
structure RvS(R:Rv N)(sd:List UInt8):Prop where
 s:∀i,(R.s i).val=chL N [115,108] [sd,(gB i).toList]
 q:∀i,(R.q i).val=chL N [115,114] [sd,(gB i).toList]
 al:R.al.val=chL N [97,108,112,104,97] [sd]
 rho:R.rho.val=chL N [114,104,111] [sd]
 t1:R.t1.val=chL N [116,97,117,49] [sd]
 t2:R.t2.val=chL N [116,97,117,50] [sd]
end
theorem Xb(q:Option YW)(n c:Nat)(w:Xs):(Yr 27 1 #[(0,.slice q n c)]).run prog w=.ok (sZ w.heap.size 1 1) (w.alloc (.cells #[.slice q n c] 23)):=kR
theorem BR(O:Ord N)(d:ByteArray)(i:d.size<=1000)(g:List UInt8)(q:Option YW)(n c:Nat)(w:Xs)(l:PartOk w (.slice q n c) g){x:Nat}(hx:x=chL N d.data.toList [g]):
 ∃k f,Hid ((Yr 27 1 #[(0,.slice q n c)]).run prog w=.ok (sZ k 1 1) f)/\Hid (kZ w f)/\Hid (XH prog 74 #[.string d,sZ k 1 1] f (rZ f λe w'=>e=nv x)):=by
 have b:=aC w (.cells #[.slice q n c] 23);refine⟨_,_,Xb q n c w,b,?_⟩;rw[hx];refine Df O d _ 1 1 [g] _ oM rfl dC (X0 ⟨_,_,rfl,λj f=>?_⟩);obtain rfl:j=0:=by simp at f;omega
 exact⟨_,(row_new w [.slice q n c] 23).2.1 0 _ rfl,l.below b⟩
def rp0:Rp:=⟨o33,o33,o33,o33,0,0,0⟩
theorem JO:rp0.Ok:=⟨rfl,rfl,rfl,rfl⟩
end
namespace RG
variable {P:YG}{ops:Array Yo}{Q:Exit->Act->Xs->Prop}{w:Xs}{a0:Act}{L:Array Bool}{F:Flow}{m:Nat}
theorem Vy:∀(k:Nat) (L:Array Bool) (a:Act) (w:Xs),wpAny P .any ops Q k L a w->anyS P ops Q (λ_ _=>True) k L a w
 | 0,_,_,_,h=>h
 | k+1,_,_,_,h=>⟨h.1,λi b=>wpOp_mono (λc w' d=>⟨trivial,Vy k _ c w' d⟩) (h.2 i b)⟩
def zG(k:Array Yo)(n:Nat)(late:List Nat):Bool:=(Yt n).all (λj=>late.contains j || nU k 5 n j) && (Yt k.size).all (λi=>decide (i<=n) || depOn k i (i-1))
theorem zF{n i:Nat}{late:List Nat}(h:zG ops n late=true)(c:n<i)(b:i<ops.size):depOn ops i (i-1)=true:=by
 unfold zG at h;rw[XO]at h;have k:=Yj.1 h.2 i (YZ.2 b);rw[Z1,decide_eq_true_eq]at k;rcases k with k|k
 ·omega
 ·exact k
def lz(m n:Nat)(late:List Nat):Array Bool:=((Yt m).map λi=>decide (i<n) && !late.contains i).toArray
structure LateP(P:YG)(F:Flow)(ops:Array Yo)(n:Nat)(late:List Nat)(j:Nat):Prop where
 lt:j<n
 o:∃o,ops[j]? = some o/\o.guard=none/\rU ops j=false/\(∀i oi,ops[i]? = some oi->i≠j->(i∈late\/n<=i)->(∀e∈oi.after,YT .any e=true->e.on≠j)->o.apart ops oi=true)/\(∃p op,n<=p/\ops[p]? = some op/\∃e∈op.after,YT .any e=true/\e.on=j)/\(∀e∈o.after,YT .any e=true->e.on<n/\e.on ∉ late)/\∃j' t,cQ o j'=true/\aV ops j'=some t/\F.kill j'=[]/\∀v w,F.R j' v w->∃u,F.R j u w/\F.E j w w/\∀(a:Act) (W:Xs),a.eval (.tmp t)=v->(Yb a.eval o).run P W=.ok (.value u) W
theorem Iy{id:Nat}(F:Flow)(n:Nat)(late:List Nat)(k6:∀j∈late,LateP P F ops n late j)(hQ:∀c (a:Act) t v w,Q (.panic c) (a.put (some t) v) w->Q (.panic c) a w)(hs:yAo ops=true)(hn:n<ops.size)(hc:zG ops n late=true)(hm:P.follows .mixedOrders=true)(R:RegF P Q F ops a0 n)(hA:Als P F ops n)(hB:∀b,F.B b w.drew)
 (hp:∀(V:Nat->Xu) (w':Xs),(∀i,i<n->F.kill i=[]->F.R i (V i) w')->(∀b,F.killB b=[]->F.B b w')->(∀i j,i<n->j<n->i≠j->rU ops i=true->rU ops j=true->(aV ops i).isSome=true->(aV ops j).isSome=true->V i≠V j)->wpList P ops Q (ops.toList.drop n) (bY V (ops.toList.take n) 0 a0) w'):(Zd id ops true).wp P Q a0 w:=by
 have kf:∀(i:Nat) (o:Yo),ops[i]? = some o->∀e∈o.after,YT .any e=true->e.on<i:=λi o ho=>(R.of ho).1
 have key:∀(m:Nat) (L:Array Bool) (a:Act) (w:Xs),unl L=m->(∀j,n<=j->on L j=false)->InvF F ops a0 L a w->Sep ops L a->wpAny P .any ops Q m L a w:=by
  intro m;induction m with
  | zero =>
   intro L a w hu k y hS;have:=kY hu n (by rw[y.size];omega);rw[k n (Xx _)]at this;cases this
  | succ m ih =>
   intro L a w hu k y hS;by_cases g:∀j,j<n->j ∉ late->on L j=true
   ·by_cases h8:∃j,j∈late/\on L j=false
    ·obtain⟨j,s,H⟩:=h8;obtain⟨k3,o,ho,hg,hw,ke,⟨p,op,k7,k9,k4⟩,hz,j',t,A,kb,k1,hy⟩:=k6 j s;have J:∀x∈F.kill j',on L x=false:=λx hx=>by rw[k1]at hx;cases hx
     obtain⟨V,D,Y⟩:=y.all;have f:∀e∈o.after,YT .any e=true->on L e.on=true:=λe Z hb=>g _ (hz e Z hb).1 (hz e Z hb).2
     obtain⟨e,Z,U⟩:=yAr.1 A;simp only[XO,beq_iff_eq]at U;have r:on L j'=true:=by rw[<-U.2];exact f e Z U.1
     obtain⟨u,kc,ka,kd⟩:=hy (V j') w (Y j' r J);have k0:a.eval (.tmp t)=V j':=BK (D j' t r kb);have X:=(XY.1 ho).1;have ht:L.getD j true=false:=by
      unfold on at H;rw[XI,X4 (by rw[y.size];exact X)]at H⊢;exact H
     have h6:∀i,on L i=true->i<n:=λi q=>by
      rcases Zq i n with h|h
      ·exact h
      ·rw[k i h]at q;cases q
     have I:=y.nx R k3 h6 ho H f ka kc;have O:∀i,on (L.setIfInBounds j true) i=true->i≠j->on L i=true:=λi q C=>by
      rw[eD (by rw[y.size];exact X)]at q;rcases Z1 _ _ ▸ q with q|q
      ·exact q
      ·exact absurd (by simpa using q:j=i).symm C
     have k2:Sep ops (L.setIfInBounds j true) (a.put o.dst u):=λi i2 di dj q k5 T B E z M=>by
      have hq:i≠j:=by rintro rfl;rw[hw]at B;cases B
      have h5:i2≠j:=by rintro rfl;rw[hw]at E;cases E
      have G:=hS i i2 di dj (O i q hq) (O i2 k5 h5) T B E z M;have K:∀i di N,i≠j->aV ops i=some di->o.dst=some N->N≠di:=λi di N C q hk e=>by
       subst e;exact C ((R.of ho).2 N hk |>.2 i q)
      cases hd:o.dst with
      | none=>exact G
      | some N=>rw[kK (K i di N hq z hd),kK (K i2 dj N h5 M hd)];exact G
     have h0:=ih (L.setIfInBounds j true) (a.put o.dst u) w (by have:=mH ht;omega) (λi q=>by
      rw[eD (by rw[y.size];exact X),k i q];simp only[yCQ,beq_eq_false_iff_ne];omega) I k2
     refine anyS.any _ _ _ _ (anyS.first (S:=λ_ _=>True) (p:=p) ho k9 k4 oM (λ_ _ _=>trivial) (Region.noSelect_spec hs) (λc a w h=>by
      cases hd:o.dst with
      | none=>rw[hd]at h;exact h
      | some t=>rw[hd]at h;exact hQ c a t u w h) m L a w ?_ (λi oi K C h9 k8=>ke i oi K C (by
      rcases Zq i n with h|h
      ·by_cases h7:i∈late
       ·exact X9 h7
       ·have N:=g i h h7;have G:=(XY.1 K).1;unfold on at N;rw[XI,X4 (by rw[y.size];exact G)]at N h9;exact Bool.noConfusion (N.symm.trans h9)
      ·exact X0 h) k8) (mem_ready.2 ⟨ht,o,ho,?_⟩) (X9 ⟨bK hg _,λW _=>kd a W k0⟩) ⟨#[],by simp,yEU⟩ trivial (Vy m _ _ _ h0))
     ·have:=k p k7;unfold on at this;exact this
     ·intro e Z hb;exact f e Z hb
    have r:∀j,j<n->on L j=true:=λj s=>by
     by_cases H:j∈late
     ·cases h:on L j with
      | true=>rfl
      | false=>exact absurd ⟨j,H,h⟩ h8
     ·exact g j s H
    have C:∀j,on L j=true↔j<n:=λj=>⟨λs=>(by
     rcases Zq j n with h|h
     ·exact h
     ·rw[k j h]at s;cases s),r j⟩
    obtain⟨V,D,Y⟩:=y.all;have X:=y.act R oM C D;have J:∀l:List Nat,l=[]->∀x∈l,on L x=false:=λl U x hx=>by rw[U]at hx;cases hx
    have M:=hp V w (λj s hk=>Y j (r j s) (J _ hk)) (λb hb=>y.base b (J _ hb)) (λi j q s T B E z A e=>by
     obtain⟨di,z⟩:=YB.1 z;obtain⟨dj,A⟩:=YB.1 A;refine hS i j di dj (r i q) (r j s) T B E z A ?_;rw[D i di (r i q) z,D j dj (r j s) A,e])
    rw[<-X]at M;exact Ah (λi O N=>zF hc O N) kf _ L a w n (Xx _) oM y.size C hu M
   ·refine⟨λB=>?_,λi q=>?_⟩
    ·exact absurd (λj s _=>y.full R B j oM) g
    ·obtain⟨O,o,ho,f⟩:=mem_ready.1 q;have G:=(XY.1 ho).1;have K:on L i=false:=by
      unfold on;rw[XI]at O⊢;cases hh:L[i]? with
      | none=>rfl
      | some b=>rw[hh]at O;exact O
     have z:i<n:=by
      rcases Zq i n with h|h
      ·exact h
      ·exfalso;rcases Zq n i with N|N
       ·have:=gZ ho f (zF hc N G);rw[k (i-1) oM]at this;cases this
       ·obtain rfl:i=n:=oM;refine g λj s H=>?_
        unfold zG at hc;rw[XO]at hc;have r:=Yj.1 hc.1 j (YZ.2 s);rw[Z1]at r;replace r:=r.resolve_left (by simpa using H);unfold nU at r;rw[Z1]at r;rcases r with r|r
        ·exact gZ ho f r
        ·obtain⟨x,hx,A⟩:=List.any_eq_true.1 r;rw[XO]at A;exact xR y 4 x j (by have:=YZ.1 hx;omega) (gZ ho f A.1) A.2
     refine wpOp_mono (λr w' I=>ih _ r w' (by have:=mH O;omega) (λj s=>?_) I.1 I.2) (stepS R hA z (λj s=>?_) ho K f y hS)
     ·rw[eD (by rw[y.size];exact G),k j s];simp only[yCQ,beq_eq_false_iff_ne];omega
     ·rcases Zq j n with h|h
      ·exact h
      ·rw[k j h]at s;cases s
 have k:∀i,on (XL ops.size false) i=false:=λi=>by
  unfold on;rw[XI,Array.getElem?_replicate];by_cases h:i<ops.size
  ·rw[yES h];rfl
  ·rw[yET h];rfl
 refine wp_region_any hm (key _ _ a0 _ ?_ (λj _=>k j) ⟨Array.size_replicate,(λi o _ h=>by rw[k]at h;cases h),rfl,rfl,λ_ _=>rfl,⟨λ_=>Zp,λi d h=>(by rw[k]at h;cases h),λi h=>(by rw[k]at h;cases h)⟩,λb _=>hB b⟩ (λi j di dj q=>by rw[k]at q;cases q));unfold unl;rw[yBG,List.countP_replicate];simp
theorem late1{G:Gw}{n:Nat}{late:List Nat}{j:Nat}(p m:Nat)(t:Tmp)(f:∀v w,G.R m v w->∃u,G.R j u w/\∀o,ops[j]? = some o->∀W,(cN [t] o,(Yb (evo λ_=>v) o).run P W)=(true,.ok (.value u) W))
 (z:(decide (j<n) && decide (n<=p) && waits ops p j && Region.free .any ops (lz ops.size n late) j && !rU ops j && (match ops[j]? with|some o=>o.guard.isNone && o.after.all (λe=>!YT .any e || (decide (e.on<n) && !late.contains e.on)) && cQ o m|none=>false))=true:=by kernel_rfl) (hd:aV ops m=some t:=by kernel_rfl):LateP P G.flow ops n late j:=by
 simp only[XO,decide_eq_true_eq,yDw]at z;obtain⟨⟨⟨⟨⟨H,I⟩,d⟩,E⟩,J⟩,c⟩:=z;cases ho:ops[j]? with
 | none=>rw[ho]at c;cases c
 | some o =>
  rw[ho]at c;simp only[XO]at c;obtain⟨⟨D,F⟩,C⟩:=c;have B:o.guard=none:=by simpa using D
  refine⟨H,o,ho,B,J,λi A g x k y=>Region.free_spec ho E i A g x ?_ y,?_,λe l b=>?_,m,t,C,hd,rfl,λv w hv=>?_⟩
  ·have q:=(XY.1 g).1;unfold lz;rw[XI,Ye,Ys,List.getElem?_range q,Option.map_some,Option.getD_some];rcases k with k|k
   ·rw[List.contains_iff_mem.2 k,yEb,Bool.and_false]
   ·rw[decide_eq_false oM,Bool.false_and]
  ·unfold waits at d;cases q:ops[p]? with
   | none=>rw[q]at d;cases d
   | some op =>
    rw[q]at d;obtain⟨e,l,b⟩:=yAr.1 d;simp only[XO,beq_iff_eq]at b;exact⟨p,op,I,q,e,l,b.1,b.2⟩
  ·have:=Array.all_eq_true'.1 F e l;rw[b,yEb,yCQ,XO,decide_eq_true_eq,yDw]at this;exact⟨this.1,by simpa using this.2⟩
  ·obtain⟨u,s,r⟩:=f v w hv;refine⟨u,s,XM _ _,λa W l=>?_⟩;have h:=r o ho W;rw[Ze.injEq]at h;rw[jE (a:=a) (λ_=>v) [t] h.1 (λK q=>by rw[YY.1 q];exact l)];exact h.2
theorem Gw.late{id:Nat}(G:Gw)(n:Nat)(l:List Nat)(b:∀j∈l,LateP P G.flow ops n l j)(q:Als P G.flow ops n)(k:(decide (n<ops.size) && zG ops n l && yAo ops)=true)(m:P.follows .mixedOrders=true)(e:BQ ops a0.tmps.size=true)(h:iY P Q G.flow ops a0 0 (ops.toList.take n))(f:G.B w.drew)
 (s:∀(V:Nat->Xu) (w':Xs),(∀i,i<n->G.R i (V i) w')->G.B w'->(∀i j,i<n->j<n->i≠j->rU ops i=true->rU ops j=true->(aV ops i).isSome=true->(aV ops j).isSome=true->V i≠V j)->wpList P ops Q (ops.toList.drop n) (bY V (ops.toList.take n) 0 a0) w') (d:∀c (a:Act) t v w,Q (.panic c) (a.put (some t) v) w->Q (.panic c) a w:=by exact λ_ _ _ _ _ h=>h):(Zd id ops true).wp P Q a0 w:=by
 rw[XO,XO,decide_eq_true_eq]at k;exact Iy G.flow n l b d k.2 k.1.1 k.1.2 m (Gw.reg e h) q (λ_=>f) λV w' p r o=>s V w' (λi g=>p i g rfl) (r 0 rfl) o
end RG
section
section
variable {P:YG}{ops:Array Yo}{rest:List Yo}{op:Yo}{a a':Act}{w w':Xs}{Q:Exit->Act->Xs->Prop}{d:Option Tmp}{x v:Xu}{t:Tmp}{T:Yd}{b off:Nat}{cs:List Xu}
theorem PW.begin{id:Nat}{l:List Yo}(h:wpList P l.toArray Q l a w):(Zd id l.toArray false).wp P Q a w:=wp_region_list h
theorem PW.dn(h:Q .normal a w):wpList P ops Q [] a w:=h
theorem PW.va(x:Xu)(h:wpList P ops Q rest a' w)(hd:op.dst=d:=by rfl)(b:op.guard=none:=by rfl)(hv:(Yb a.eval op).run P w=.ok (.value x) w:=by kernel_rfl)(c:a.put d x=a':=by(simp only[XK,Xt,Xv,Xw])<;>rfl):wpList P ops Q (op :: rest) a w:=by
 subst c hd;exact ZH b λK k=>by
  unfold YV;rw[hv];exact k _ _ h
theorem PW.mv(h:wpList P ops Q rest a' w)(hd:op.dst=d:=by rfl)(b:op.guard=none:=by rfl)(k:op.op=.move (.tmp t):=by rfl)(hx:a.eval (.tmp t)=x:=by(conv=>lhs;whnf)<;>rfl)(c:a.put d x=a':=by(simp only[XK,Xt,Xv,Xw])<;>rfl):wpList P ops Q (op :: rest) a w:=
 PW.va x h hd b (by unfold Yb;rw[k];dsimp only;rw[hx];rfl) c
theorem PW.ns{I:Sem Xu}(hx:I.run P w=.ok x w')(h:wpList P ops Q rest a' w')(hd:op.dst=d:=by rfl)(b:op.guard=none:=by rfl)(c:Yb a.eval op=I >>= λv=>pure (ZN v):=by kernel_rfl)(e:a.put d x=a':=by(simp only[XK,Xt,Xv,Xw])<;>rfl):wpList P ops Q (op :: rest) a w:=by
 subst e hd;exact ZH b λK k=>by
  unfold YV;rw[c,XT,hx];exact k _ _ h
theorem PW.ca{f:ZY}{args:Array Xu}{R:Xu->Xs->Prop}(c:XH P f args w (Ret R))(h:∀e w',R e w'->wpList P ops Q rest (a.put d e) w')(hd:op.dst=d:=by rfl)(b:op.guard=none:=by rfl)(hx:(Yb a.eval op).run P w=.ok (.enter f args) w:=by kernel_rfl):wpList P ops Q (op :: rest) a w:=by
 subst hd;exact ZH b λK k=>by
  unfold YV;rw[hx,ZI];refine c.mono ?_;rintro e w' ⟨v,rfl,hR⟩;exact k _ _ (h v w' hR)
theorem PW.gi{f:ZY}{args:Array Xu}(c:XH P f args w (rZ w λe w'=>e=x))(h:∀w',kZ w w'->wpList P ops Q rest a' w')(hd:op.dst=d:=by rfl)(b:op.guard=none:=by rfl)(hx:(Yb a.eval op).run P w=.ok (.enter f args) w:=by kernel_rfl)(g:a.put d x=a':=by(simp only[XK,Xt,Xv,Xw])<;>rfl):wpList P ops Q (op :: rest) a w:=
 PW.ca c (λe w' hR=>by
  obtain⟨k,rfl⟩:=hR;subst g;exact h w' k) hd b hx
theorem PW.al{g:Nat}{b:Obj}(e:Hid (w.heap.size=g))(f:Hid (w.alloc b=w'))(h:wpList P ops Q rest a' w')(hd:op.dst=d:=by rfl)(k:op.guard=none:=by rfl)(i:(Yb a.eval op).run P w=.ok (.value (jZ w.heap.size)) (w.alloc b):=by kernel_rfl)(j:a.put d (jZ g)=a':=by(simp only[XK,Xt,Xv,Xw])<;>rfl):wpList P ops Q (op :: rest) a w:=by
 subst j hd;exact ZH k λK c=>by
  unfold YV;rw[i,e.out,f.out];exact c _ _ h
theorem PW.st(e:Hid (w.setCells b off cs=w'))(hv:Hid (.agg cs.toArray=v))(th:w.there b off cs.length)(d:(P.info? T).map (·.size)=some cs.length)(c:cs.toArray.all (·.oneCell')=true)(h:wpList P ops Q rest a' w')(hd:op.dst=none:=by rfl)(k:op.guard=none:=by rfl){y:Operand}(ho:op.op=.store T (.tmp t) y:=by rfl)(hx:a.eval (.tmp t)=oZ b off:=by rfl)(f:a.eval y=v:=by rfl)(g:a.put none Zp=a':=by(simp only[XK])<;>rfl):wpList P ops Q (op :: rest) a w:=
 X8 k T (.tmp t) y ho b off cs.toArray hx (f.trans hv.out.symm) th d c (by rw[show cs.toArray.toList=cs from rfl,e.out,hd,g];exact h)
theorem PW.ro(j:w.rangeAt b off cs)(hv:Hid (.agg cs.toArray=v))(e:(P.underlying T).map (·.isRow)=some true)(f:(P.info? T).map (·.size)=some cs.length)(h:wpList P ops Q rest a' w)(hd:op.dst=d:=by rfl)(k:op.guard=none:=by rfl)(ho:op.op=.load T (.tmp t):=by rfl)(hx:a.eval (.tmp t)=oZ b off:=by rfl)(l:a.put d v=a':=by(simp only[XK,Xt,Xv,Xw])<;>rfl):wpList P ops Q (op :: rest) a w:=by
 obtain⟨i,c,g⟩:=XA.1 e;exact Yv k T (.tmp t) ho b off hx cs i j c g f (by rw[hv.out,hd,l];exact h)
theorem PW.ce(e:w.cell? ⟨b,off,none⟩=some x)(c:(P.underlying T).map (·.isRow)=some false)(h:wpList P ops Q rest a' w)(hd:op.dst=d:=by rfl)(k:op.guard=none:=by rfl)(ho:op.op=.load T (.tmp t):=by rfl)(hx:a.eval (.tmp t)=oZ b off:=by rfl)(f:a.put d x=a':=by(simp only[XK,Xt,Xv,Xw])<;>rfl):wpList P ops Q (op :: rest) a w:=
 PW.va x h hd k (by
  unfold Yb;rw[ho];dsimp only;rw[hx,XT,eN e c];rfl) f
end
end
section
open SPA
variable {P:Nat}[NeZero P]{N:Nat}[NeZero N]
omit [NeZero N] in
theorem SLq.fin{Q:Nat->Prop}{W:Xs}{v:Xu}{n:Nat}{a:Nat->Nat}(b:Nat->Fin N)(h:SLq Q W v n a)(e:∀i,i<n->a i=(b i).val):SLq Q W v n (λi=>(b i).val):=h.congr e
omit [NeZero N] in
theorem Ln.fin{Q:Nat->Prop}{W:Xs}{v:Xu}{n:Nat}{a b:Nat->Nat}(c d:Nat->Fin N)(h:Ln Q W v n a b)(e:∀i,i<n->a i=(c i).val)(e':∀i,i<n->b i=(d i).val):Ln Q W v n (λi=>(c i).val) (λi=>(d i).val):=by
 obtain⟨x,y,k,f,g⟩:=h.ex;exact⟨x,y,k,f.congr e,g.congr e'⟩
theorem Mg(k:1<N)(v i:Nat):v/2^i%2=(btF N v i).val:=by
 exact(XX (Xz (Y9 _ dC) k)).symm
theorem SY(k:1<N)(v i:Nat):sMi N (v/2^i%2) 1=(btF N v i-1).val:=by
 rw[Kv,<-Mg k,show(1:Fin N).val=1 from XX k]
theorem UM(C:Fld P)(O:Ord N)(b:∀r:EC.Pt P,On r->mul N r=none)(f:IsP N)(n:Nat)(j:0<n)(D:n<=64)(a:Fin N)(l m:Nat->Fin N)(Gb X:Bs)(hG:wr (gG P)=Gb)(t:X=wP ((aD C b).ad ((aD C b).ac a (gPG C)) ((aD C b).ad ((aD C b).dt l (gPt C ⟨#[108,101,102,116]⟩) n) ((aD C b).dt m (gPt C ⟨#[114,105,103,104,116]⟩) n)))):
 ∃d lb,(∀W:Xs,XH prog 32 #[pvl Gb,nv a.val] W (rZ W λe w'=>Sm W.heap.size w' e d)) /\
  (∀(Q:Nat->Prop) (W:Xs) (v va c:Xu),GRq Q W v n (gGT P) (hGT P) (uGT P)->SLq Q W va n (λi=>(l i).val)->SLq Q W c n (λi=>(m i).val)->XH prog 78 #[v,va,c] W (rZ W λe w'=>Sm W.heap.size w' e lb)) /\
  (∀(W:Xs) (s z:Xu),Sm 0 W s d->Sm 0 W z lb->XH prog 31 #[s,z] W (rZ W λe w'=>Sm W.heap.size w' e (d++lb))) /\
  (∀(W:Xs) (v:Xu),Sm 0 W v (d++lb)->XH prog 33 #[v] W (rZ W λe w'=>e=pvl X)):=by
 have d:=wQ C f.1 n;have g:=oH C f.1 n;have o:=tZ j (by decide:0<1) oM d g (nM C f.1) yEv (by show 1<=16;decide);have B:Gb.size=33:=by rw[<-hG];exact aL _
 have t0:Tl N [(a.val,Gb)] ((aD C b).ac a (gPG C)):=by rw[<-hG];exact Tl.pt C b a (gPG C)
 have t1:=(d.cmb C b l).1.app C b (g.cmb C b m).1;have x:(dF N (λi=>(l i).val) (gGT P) n++dF N (λi=>(m i).val) (hGT P) n).length=n+n:=by rw[XC,(d.cmb C b l).2,(g.cmb C b m).2,ZU]
 have t2:=t0.app C b t1;refine⟨_,_,λW=>?_,λ_ W v va c p q y=>yK O n 1 (gGT P) (hGT P) (uGT P) o _ _ (λi _=>(l i).isLt) (λi _=>(m i).isLt) v va c W p q y,λW s z p q=>cA 0 s z _ _ (by simp) (by simp) oM t0.ok.sz t1.ok.sz W (X0 p) (X0 q),λW v hv=>?_⟩
 ·refine(lJ Gb B a.val W).mono ?_;rintro e W' ⟨u,rfl,w,k,rfl,o,hR⟩;exact⟨_,rfl,w,Sm.one hR o rfl⟩
 ·rw[t];exact t2.point C O b (by simp) (by rw[XC,x];simp;omega) hv
theorem mP(k:1<N)(x:Fin N)(i:Nat):pwN N x.val i=(pwF x i).val:=(FU k x i).symm
theorem QP(k:IsP N)(b:2<N)(R:Rv N)(i:Nat):sPl N (sTi N R.z.val (pwN N R.y.val i)) (sTi N (sTi N R.z.val R.z.val) (pwN N 2 i))=(R.sh i).val:=by
 show _=(R.z*pwF R.y i+R.z*R.z*pwF (ofF N 2) i).val;rw[jP,eX,eX,eX,<-mP k.1,<-mP k.1,show(ofF N 2).val=2 from XX b]
def pLn(Q:Nat->Prop)(n:Nat)(a b:Nat->Nat):S1:=⟨λv w=>Ln Q w v n a b,λ_ _ _ k h=>h.keep (Kq.of_below k)⟩
omit [NeZero N] in
theorem yP(O:Ord N)(a b:Fin N)(W:Xs):XH prog 26 #[nv a.val,nv b.val] W (rZ W λe w'=>e=nv (a*b).val):=by
 rw[eX];exact gV O a.val b.val a.isLt b.isLt W
omit [NeZero N] in
theorem Sy(O:Ord N)(a b:Fin N)(W:Xs):XH prog 25 #[nv a.val,nv b.val] W (rZ W λe w'=>e=nv (a+b).val):=by
 rw[jP];exact mM O a.val b.val a.isLt b.isLt W
theorem nJ(O:Ord N)(k:IsP N){y:Fin N}{L:Bs}(h:y=kX N L):chS N L=y.val:=by
 rw[h];exact GW k.1 L (oU O _)
def Ul(b:Nat)(i g:Xu)(L:Bs):S1:=⟨λv w=>∃r,v=.tuple #[lgV r,i,g]/\b<=r/\r<w.heap.size/\Holds encB w r 0 L,λ_ _ _ k ⟨r,e,f,c,d⟩=>⟨r,e,f,Xz c k.size,Holds.below d k c⟩⟩
def Uj(b:Nat)(L:Bs):S1:=⟨λv w=>∃r,v=lgV r/\b<=r/\r<w.heap.size/\Holds encB w r 0 L,λ_ _ _ k ⟨r,e,f,c,d⟩=>⟨r,e,f,Xz c k.size,Holds.below d k c⟩⟩
theorem Ew{W:Xs}{r k:Nat}{L:Bs}{u:Xu}{cs:List Xu}(h:Holds encB W r 0 L)(f:0<L.size)(g:Row W k (u :: cs))(d:∀b:UInt8,encB b≠u):r≠k:=by
 rintro rfl;have c:=(h 0 f).1;have e:=g.2.1 0 u rfl;rw[e]at c;exact d _ (Option.some.inj c).symm
theorem hG{α:Sort _}{p:Prop}(x:α)(h:∀y,Hid (x=y)->p):p:=h x rfl
structure RgA(B0 t:Nat)(p:Rp)(Lb Rb:Nat->Bs)(Ab Bb:Bs)(e:Xu)(W:Xs):Prop where
 ex:∃a b c d u m s vL vR vA vB,e=.agg #[r33 a,r33 b,r33 c,r33 d,r32 u,r32 m,r32 s,vL,vR,vA,vB]/\RgT (λ_=>True) W p a b c d u m s/\TlL (λ_=>True) B0 t W vL Lb/\TlL (λ_=>True) B0 t W vR Rb/\ElQ (λ_=>True) 32 W vA Ab/\ElQ (λ_=>True) 32 W vB Bb
omit [NeZero N] [NeZero P] in
theorem RgA.set{i t k:Nat}{p:Rp}{n Rb:Nat->Bs}{q r:Bs}{e:Xu}{W:Xs}{us vs:List Xu}(h:RgA i t p n Rb q r e W)(G:Row W k (.slice none 0 0 :: vs))(O:k<i):RgA i t p n Rb q r e (W.setCells k 0 us):=by
 obtain⟨a,b,c,d,u,m,s,w,M,F,A,z,f,C,hR,J,y⟩:=h.ex;have kq:Kq (·≠k) W (W.setCells k 0 us):=Kq.set λg l=>l
 have el:∀ {m:Nat}{x:Xu}{b:Bs},0<m->ElQ (λ_=>True) m W x b->ElQ (λ_=>True) m (W.setCells k 0 us) x b:=λE hx=>((hx.off E G).keep kq).mono2 λ_ _ _=>trivial
 have v:∀ {o:Xu}{B:Nat->Bs},TlL (λ_=>True) i t W o B->TlL (λ_=>True) i t (W.setCells k 0 us) o B:=λhx=>by
  obtain⟨xs,K,H⟩:=hx.ex;refine⟨xs,bG K λg l=>aE k us 0 W g (by have:=(hx.lt l).1;omega),λj D=>?_⟩;obtain⟨x,I,L⟩:=H j D;exact⟨x,I,el dC L⟩
 exact⟨a,b,c,d,u,m,s,w,M,F,A,z,⟨el dC f.a,el dC f.b,el dC f.c,el dC f.d,el dC f.e,el dC f.f,el dC f.g⟩,v C,v hR,el dC J,el dC y⟩
theorem OB(C:Fld P)(k:∀r:EC.Pt P,On r->mul N r=none)(c:IsP N)(R:Rv N)(n:Nat):Gd N n 1 (qD N R.y.val (hGT P)) (R.hh (aD C k) (gPt C ⟨#[114,105,103,104,116]⟩)):=by
 have g:=oH C c.1 n;refine⟨λi b=>?_,λi b=>by unfold qD;rw[XV];exact g.len i b⟩;have h:=(g.tl i b).tm C k (pwF (ivF R.y) i);rw[<-mP c.1]at h;exact h
theorem NX(C:Fld P)(O:Ord N)(k:∀r:EC.Pt P,On r->mul N r=none)(U:IsP N)(t:Nat)(ht:t<=6)(R:Rv N)(hn:R.n=2^t)(hv:R.v<18446744073709551616)(hN:18446744073709551616<=N)(sd:List UInt8)(sq:Option YW)(sn sc:Nat)(V A S C1 C2 L3 L6 L8:Bs)(Y:RvL C k R V A S C1 C2 L3 L6 L8)(hS:RvS R sd)(q:Md.Ps Bs (Fin N) (OnP P))(lh:q.s=aX L8)(mz:q.a=R.a)(mn:q.b=R.b)(nq:q.g=gPt C ⟨#[108,101,102,116]⟩)(mf:q.h=R.hh (aD C k) (gPt C ⟨#[114,105,103,104,116]⟩))(u:OnP P)(hu:u=(aD C k).ac R.w (uPt C))(Lb Rb:Nat->Bs)(nz:∀j,Lb j=wP ((aD C k).pLi (chF N) ivF u t q j))(o2:∀j,Rb j=wP ((aD C k).pTi (chF N) ivF u t q j))(Ab Bb:Bs)(nn:Ab=bx (((aD C k).pst (chF N) ivF u t q t).a 0).val)(n7:Bb=bx (((aD C k).pst (chF N) ivF u t q t).b 0).val)(pz:Rp)(L:Hid (⟨A,S,C1,C2,R.tau.val,R.mu.val,R.t.val⟩=pz))(w:Xs)(hp:PartOk w (.slice sq sn sc) sd):
 XH prog 42 #[uZ (R.v:Int),nv R.k.val,iZ (R.n:Int),.slice sq sn sc] w (rZ w λe w'=>∃f,w.heap.size<=f/\RgA f t pz Lb Rb Ab Bb e w'):=by
 obtain⟨vr,hq⟩:=hE (nv R.k.val);obtain⟨va,hl⟩:=hE (nv R.al.val);obtain⟨vh,hy⟩:=hE (nv R.rho.val);obtain⟨v1,hw⟩:=hE (nv R.t1.val);obtain⟨v2,h9⟩:=hE (nv R.t2.val);obtain⟨k5,ii⟩:=hE (w.heap.size);obtain⟨w1,ja⟩:=hE (w.alloc (.cells (wn R.k.val).toArray 44));obtain⟨k8,jq⟩:=hE (w1.heap.size);obtain⟨w2,ji⟩:=hE (w1.alloc (.cells z11.toArray 66));have K2:=mk1 (((Mp.start w).new ii ja).new jq ji);have B1:Hid ((Yl 44 vr).run prog w=.ok (jZ k5) w1):=by rw[<-hq.out,<-ja.out,<-ii.out];exact boxS _ w
 have n:R.n<=64:=by rw[hn];exact XB (Y4 dC ht) dC
 have kk:Hid (∀W,kZ w W->PartOk W (.slice sq sn sc) sd):=λW hb=>hp.below hb
 obtain⟨g3,w3,js,li,i6⟩:=BR O ⟨#[97,108,112,104,97]⟩ dC sd sq sn sc w2 (kk w2 K2.bl) hS.al;rw[hl.out]at i6;rw[hq.out];go_enter func42,ntmps42;refine Xy ?_;refine PW.begin ?_;refine PW.ns B1.out ?_;refine PW.al jq ji ?_;refine PW.dn ?_;refine Xy ?_;refine PW.begin ?_;refine PW.mv ?_;refine PW.ns js.out ?_;refine PW.gi i6.out λw4 lj=>?_
 have K4:=mk1 ((K2.grow li.out).grow lj);obtain⟨g5,w5,il,le,ia⟩:=BR O ⟨#[114,104,111]⟩ dC sd sq sn sc w4 (kk w4 K4.bl) hS.rho;rw[hy.out]at ia;clear i6 lj li js K2;refine PW.mv ?_;refine PW.ns il.out ?_;refine PW.gi ia.out λw6 ih=>?_
 have K6:=mk1 ((K4.grow le.out).grow ih);clear ia le ih il K4;refine hG (w6.heap.size) λk9 jr=>?_
 refine hG (w6.alloc (.cells (RG.z 4).toArray 44)) λw7 j2=>?_
 refine hG w7.heap.size λo9 ef=>?_
 refine hG (w7.alloc (.cells (RG.z 4).toArray 44)) λw8 jb=>?_
 refine hG (w8.setCells k9 0 (wn R.al.val)) λw9 jc=>?_
 refine hG (w9.setCells o9 0 (wn R.rho.val)) λl5 em=>?_
 have K8:=mk1 ((K6.new jr j2).new ef jb);have K9:=mk1 (K8.put 2 jc);have fp:=mk1 (K9.put 3 em);refine PW.al jr j2 ?_;refine PW.al ef jb ?_;refine PW.st jc hl (K8.th 2) i40 (aI _) ?_;refine PW.st em hy (K9.th 3) i40 (aI _) ?_;clear K6 K8 K9;refine PW.dn ?_;obtain⟨oq,oj,dq,en,ku⟩:=BR O ⟨#[116,97,117,49]⟩ dC sd sq sn sc l5 (kk l5 fp.bl) hS.t1;rw[hw.out]at ku;refine Xy ?_;refine PW.begin ?_;refine PW.mv ?_;refine PW.ns dq.out ?_;refine PW.gi ku.out λjl ds=>?_
 have i3:=mk1 ((fp.grow en.out).grow ds);obtain⟨pa,ol,cy,es,kd⟩:=BR O ⟨#[116,97,117,50]⟩ dC sd sq sn sc jl (kk jl i3.bl) hS.t2;rw[h9.out]at kd;clear ku en ds dq fp;refine PW.mv ?_;refine PW.ns cy.out ?_;refine PW.gi kd.out λlv dk=>?_
 have jt:=mk1 ((i3.grow es.out).grow dk);clear kd es dk cy i3;refine hG (lv.heap.size) λn6 et=>?_
 refine hG (lv.alloc (.cells (RG.z 4).toArray 44)) λjo dz=>?_
 refine hG jo.heap.size λm9 d5=>?_
 refine hG (jo.alloc (.cells (RG.z 4).toArray 44)) λni dh=>?_
 refine hG (ni.setCells n6 0 (wn R.t1.val)) λmt d8=>?_
 refine hG (mt.setCells m9 0 (wn R.t2.val)) λl3 er=>?_
 have gq:=mk1 ((jt.new et dz).new d5 dh);have fu:=mk1 (gq.put 4 d8);have ha:=mk1 (fu.put 5 er);refine PW.al et dz ?_;refine PW.al d5 dh ?_;refine PW.st d8 hw (gq.th 4) i40 (aI _) ?_;refine PW.st er h9 (fu.th 5) i40 (aI _) ?_;clear jt gq fu;refine PW.dn ?_;have j1:=mk1 (Uz O R.v hv R.n n sd sq sn sc l3 (kk l3 ha.bl));refine Xy ?_;refine PW.begin ?_;refine PW.mv ?_;refine PW.mv ?_;refine PW.mv ?_;refine PW.ca j1.out ?_;rintro e l7 ⟨da,xl,yl,rfl,jm,j0⟩;clear j1;obtain⟨nh,mm,rfl,g9,gz⟩:=(jm.fin R.l R.s (λi _=>Mg U.1 R.v i) (λi _=>(hS.s i).symm)).ex;obtain⟨o0,my,rfl,fe,gt⟩:=(j0.fin R.m R.q (λi _=>SY U.1 R.v i) (λi _=>(hS.q i).symm)).ex;clear jm j0;have iy:=mk1 ((((ha.gets da (pqS nh R.n λi=>(R.l i).val) g9).has (pqS mm R.n λi=>(R.s i).val) (gz.mono λg Z=>ha.nk g Z)).has (pqS o0 R.n λi=>(R.m i).val) (fe.mono λg Z=>ha.nk g Z)).has (pqS my R.n λi=>(R.q i).val) (gt.mono λg Z=>ha.nk g Z));obtain⟨kh,kw,k1,T⟩:=(cB g9).2;obtain⟨kg,kz,kb,p⟩:=(cB gz).2;obtain⟨kl,kc,kr,e3⟩:=(cB fe).2;obtain⟨kf,kx,k4,e4⟩:=(cB gt).2;subst T p e3 e4;clear g9 gz fe gt da ha;simp only[XK,Xt,Xv,Xw];refine PW.mv ?_;refine PW.va (.agg #[.slice (some ⟨kh,kw,none⟩) R.n k1,.slice (some ⟨kg,kz,none⟩) R.n kb]) ?_;refine PW.va (.agg #[.slice (some ⟨kl,kc,none⟩) R.n kr,.slice (some ⟨kf,kx,none⟩) R.n k4]) ?_;refine hG (l7.heap.size) λbj dx=>?_
 refine hG (l7.alloc (.cells [.slice none 0 0,.slice none 0 0].toArray 145)) λim co=>?_
 refine hG im.heap.size λb6 d6=>?_
 refine hG (im.alloc (.cells [.slice none 0 0,.slice none 0 0].toArray 145)) λo6 eg=>?_
 refine hG (o6.setCells bj 0 [.slice (some ⟨kh,kw,none⟩) R.n k1,.slice (some ⟨kg,kz,none⟩) R.n kb]) λnf eh=>?_
 refine hG (nf.setCells b6 0 [.slice (some ⟨kl,kc,none⟩) R.n kr,.slice (some ⟨kf,kx,none⟩) R.n k4]) λo4 ew=>?_
 have fz:=mk1 ((iy.new dx co).new d6 eg);have gg:=mk1 (fz.put 6 eh);have j4:=mk1 (gg.put 7 ew);refine PW.al dx co ?_;refine PW.al d6 eg ?_;refine PW.st eh (Hid.mk' rfl) (fz.th 6) iLi kR ?_;refine PW.st ew (Hid.mk' rfl) (gg.th 7) iLi kR ?_;clear iy fz gg;refine PW.dn ?_;have HG:=mk1 (yO (P:=P) C R.n oM o4);refine Xy ?_;refine PW.begin ?_;refine PW.mv ?_;refine PW.ca HG.out ?_;rintro e ng ⟨dp,hG⟩;clear HG;obtain⟨q1,q2,q3,rfl,jy,lo,jj⟩:=hG.ex;obtain⟨ga,oa,ca,T⟩:∃g o c,q1=.slice (some ⟨g,o,none⟩) R.n c:=by obtain⟨g,o,c,h,-⟩:=jy;exact⟨g,o,c,h⟩
 obtain⟨gb,ob,cb,p⟩:∃g o c,q2=.slice (some ⟨g,o,none⟩) R.n c:=by obtain⟨g,o,c,h,-⟩:=lo;exact⟨g,o,c,h⟩
 obtain⟨gc,mc,cc,e3⟩:∃g m c,q3=sZ g m c:=by obtain⟨g,c,h,-⟩:=jj;exact⟨g,_,c,h⟩
 subst T p e3;have j7:=mk1 (j4.gets dp (pqG _ R.n (gGT P) (hGT P) (uGT P)) hG);clear hG jy lo jj dp j4;simp only[XK,Xt,Xv,Xw];have kv:=mk1 (P6 (P:=P) C ng);refine hG (wr (gG P)) λGb bg=>?_
 have i9:Gb.size=33:=by rw[<-bg.out];exact aL _
 refine hG (pvl Gb) λvG hm=>?_
 rw[bg.out,hm.out]at kv;refine PW.gi kv.out λje eb=>?_
 have jk:=mk1 (j7.grow eb);clear kv j7 eb;refine hG (je.heap.size) λo3 dw=>?_
 refine hG (je.alloc (.cells [.slice none 0 0,.slice none 0 0,.slice none 0 0].toArray 150)) λiw f7=>?_
 refine hG iw.heap.size λn5 c9=>?_
 refine hG (iw.alloc (.cells z33.toArray 51)) λm4 f6=>?_
 refine hG (m4.setCells o3 0 [.slice (some ⟨ga,oa,none⟩) R.n ca,.slice (some ⟨gb,ob,none⟩) R.n cb,sZ gc mc cc]) λnu f4=>?_
 refine hG (nu.setCells n5 0 (aA Gb)) λl6 f9=>?_
 have gy:=mk1 ((jk.new dw f7).new c9 f6);have fy:=mk1 (gy.put 8 f4);have lG:(aA Gb).length=z33.length:=aB i9;have lg:=mk1 (fy.put 9 f9 rfl lG);refine PW.al dw f7 ?_;refine PW.al c9 f6 ?_;refine PW.st f4 (Hid.mk' rfl) (gy.th 8) iGr kR ?_;refine PW.st f9 hm (fy.th 9 rfl lG) (by rw[aB i9];exact iCP) (bQ _) ?_;clear jk gy fy;refine PW.dn ?_;refine hG (l6.heap.size) λl cp=>?_
 refine hG (l6.alloc (.cells rp0.l.toArray 153)) λoi dm=>?_
 have fk:=mk1 (lg.new cp dm);clear lg;refine Xy ?_;refine PW.begin ?_;refine PW.al cp dm ?_;refine PW.dn ?_;have gu:0<R.n:=by rw[hn];exact yAM dC
 have sA:A.size=33:=by rw[Y.eA];exact aL _
 have sS:S.size=33:=by rw[Y.eS];exact aL _
 have iG:(prog.info? 51).map (·.size)=some (aA Gb).length:=by rw[aB i9];exact iCP
 obtain⟨la,lb,cT,cL,cP,cX⟩:=UM C O k U R.n gu n R.al R.l R.m Gb A bg.out Y.eA;have HX:=mk4 cT cL cP cX;clear cT cL cP cX;rw[hl.out,hm.out]at HX;refine hG (pvl A) λvA hvA=>?_
 rw[hvA.out]at HX;refine Xy ?_;refine AW.beg 12 12 (Iv.mp w _ _ true) fk.out.drew ?_;refine AW.ro 0 (λW h=>(h.at_ 9).2.1) hm uCP iG ?_;refine AW.ro 1 (λW h=>(h.at_ 2).2.1) hl u40 i40 ?_;refine AW.ro 3 (cs:=[.slice (some ⟨ga,oa,none⟩) R.n ca,.slice (some ⟨gb,ob,none⟩) R.n cb,sZ gc mc cc]) (λW h=>(h.at_ 8).2.1) (Hid.mk' rfl) uGr iGr ?_;refine AW.va 4 (jZ bj) ?_;refine AW.ce 5 uSl (λW h=>(h.at_ 6).2.1 0 _ rfl) ?_;refine AW.va 6 (jZ b6) ?_;refine AW.ce 7 uSl (λW h=>(h.at_ 7).2.1 0 _ rfl) ?_;refine AW.ca 2 (λ_=>HX.1 _) (λe w' h=>h.1) ?_;rintro e om ⟨d7,e0⟩;simp only[XK,Xt,Xv,Xw];refine AW.ca 8 (λh=>HX.2.1 _ _ _ _ _ (h.get 4) (h.get 0) (h.get 2)) (λe w' h=>h.1) ?_;rintro p ou ⟨k6,cz⟩;simp only[XK,Xt,Xv,Xw];refine AW.ca 9 (λh=>HX.2.2.1 _ _ _ ((e0.q.keep (Kq.of_below k6)).sm) cz.q.sm) (λe w' h=>h.1) ?_;rintro e3 ov ⟨f0,db⟩;simp only[XK,Xt,Xv,Xw];refine AW.gi 10 (λh=>HX.2.2.2 _ _ db.q.sm) λnp f1=>?_
 have fn:=mk1 ((((fk.drew.grow d7).grow k6).grow f0).grow f1);clear d7 k6 f0 f1 e0 cz db fk HX;refine AW.nx 11 (jZ l) ?_;refine hG (np.setCells l 0 (aA A)) λpb kj=>?_
 have c6:=mk1 (Rp.V9 JO (fn.at_ 10) sA);refine hG ({ rp0 with a:=A }:Rp) λp1 gj=>?_
 rw[gj.out]at c6;have g0:=mk1 (fn.upd 10 kj c6.2.1);refine AW.fi (us:=aA A) hvA (bQ A) (by rw[aB sA];exact iCP) (λ_=>⟨c6.1,?_⟩);rw[kj.out];clear fn kj;obtain⟨la,lb,cT,cL,cP,cX⟩:=UM C O k U R.n gu n R.rho R.s R.q Gb S bg.out Y.eS;have HX:=mk4 cT cL cP cX;clear cT cL cP cX;rw[hy.out,hm.out]at HX;refine hG (pvl S) λvS lu=>?_
 rw[lu.out]at HX;refine Xy ?_;refine AW.beg 12 12 (Iv.mp w _ _ true) g0.out.drew ?_;refine AW.ro 0 (λW h=>(h.at_ 9).2.1) hm uCP iG ?_;refine AW.ro 1 (λW h=>(h.at_ 3).2.1) hy u40 i40 ?_;refine AW.ro 3 (cs:=[.slice (some ⟨ga,oa,none⟩) R.n ca,.slice (some ⟨gb,ob,none⟩) R.n cb,sZ gc mc cc]) (λW h=>(h.at_ 8).2.1) (Hid.mk' rfl) uGr iGr ?_;refine AW.va 4 (oZ bj 1) ?_;refine AW.ce 5 uSl (λW h=>(h.at_ 6).2.1 1 _ rfl) ?_;refine AW.va 6 (oZ b6 1) ?_;refine AW.ce 7 uSl (λW h=>(h.at_ 7).2.1 1 _ rfl) ?_;refine AW.ca 2 (λ_=>HX.1 _) (λe w' h=>h.1) ?_;rintro e ot ⟨eo,dl⟩;simp only[XK,Xt,Xv,Xw];refine AW.ca 8 (λh=>HX.2.1 _ _ _ _ _ (h.get 4) (h.get 1) (h.get 3)) (λe w' h=>h.1) ?_;rintro p pd ⟨b4,cj⟩;simp only[XK,Xt,Xv,Xw];refine AW.ca 9 (λh=>HX.2.2.1 _ _ _ ((dl.q.keep (Kq.of_below b4)).sm) cj.q.sm) (λe w' h=>h.1) ?_;rintro e3 os ⟨ed,cu⟩;simp only[XK,Xt,Xv,Xw];refine AW.gi 10 (λh=>HX.2.2.2 _ _ cu.q.sm) λoh ck=>?_
 have ge:=mk1 ((((g0.drew.grow eo).grow b4).grow ed).grow ck);clear eo b4 ed ck dl cj cu g0 HX;refine AW.nx 11 (oZ l 33) ?_;refine hG (oh.setCells l 33 (aA S)) λhz ke=>?_
 have hs:=mk1 (Rp.sets c6.2.2 (ge.at_ 10) sS);refine hG ({ p1 with s:=S }:Rp) λp2 g8=>?_
 rw[g8.out]at hs;have br:=mk1 (ge.upd 10 ke hs.2.1);refine AW.fi (us:=aA S) lu (bQ S) (by rw[aB sS];exact iCP) (λ_=>⟨hs.1,?_⟩);rw[ke.out];clear ge ke;refine hG (aX (aX L3)) λL5 fg=>?_
 have s5:L5.size=32:=by rw[<-fg.out];exact bD _ _
 have sV:V.size=33:=by rw[Y.eV];exact aL _
 refine hG (X6 p2.l.toArray) λvp l4=>?_
 refine hG (pvl V) λvV ix=>?_
 refine hG (nv R.v) λvn lq=>?_
 refine hG (nv R.y.val) λvy M=>?_
 refine hG (nv R.z.val) λvz h5=>?_
 have f3:Hid (∀W,XH prog 79 #[vp,vV,iZ (R.n:Int)] W (rZ W λe w'=>∃r,e=.tuple #[lgV r,vy,vz]/\W.heap.size<=r/\Holds encB w' r 0 L5)):=λW=>by
  have h:=Qi O p2 hs.2.2 V sV R.n oM W;rw[show bgL V R.n p2.a p2.s=L3 by rw[<-g8.out,<-gj.out];exact Y.l3.symm,nJ O U Y.y,nJ O U Y.z,fg.out,l4.out,ix.out,M.out,h5.out]at h;exact h
 have cf:Hid (∀W,XH prog 14 #[vn,vr] W (rZ W λe w'=>e=vV)):=λW=>by
  have h:=mB C O (a:=R.v) (b:=R.k.val) oM R.k.isLt W;have e:(ofF N R.v).val=R.v:=XX oM;have p:=zA C k (ofF N R.v) R.k;rw[e]at p;rw[p,show wP ((aD C k).cm (hPV C) (gPG C) (ofF N R.v) R.k)=V from Y.eV.symm,lq.out,hq.out,ix.out]at h;exact h
 have lm:Hid (∀W,XH prog 15 #[uZ (R.v:Int)] W (rZ W λe w'=>e=vn)):=λW=>by
  rw[<-lq.out];exact rQ R.v hv W
 refine hG hz.heap.size λb hb=>?_
 have kp:∀ {W},kZ hz W->b<=W.heap.size:=λh=>hb.out ▸ h.size
 refine Xy ?_;refine(gwL [pE vp,pE (uZ (R.v:Int)),pE vn,pE vr,pE vV,pE (iZ (R.n:Int)),Ul b vy vz L5,Ul b vy vz L5,Uj b L5,pE vy,pE vz,RG.pN b [.pointer none],RG.pN b (RG.z 4),RG.pN b (RG.z 4)] (λW=>kZ hz W) (λW W' hb h=>h.trans (hb.mono h.size))).late 14 [9,10] (λj hj=>by
  rcases YX.1 hj with rfl|hj
  ·exact late1 15 7 75 λv W ⟨r,e,_⟩=>⟨vy,rfl,λo ho W'=>by
    cases ho
    rw[e];kernel_rfl⟩
  ·obtain rfl:=YY.1 hj;exact late1 16 7 75 λv W ⟨r,e,_⟩=>⟨vz,rfl,λo ho W'=>by
    cases ho
    rw[e];kernel_rfl⟩) (Fo [11,12,13] ⟨al1 [.pointer none] 159 yA,al1 (RG.z 4) 44 yA,al1 (RG.z 4) 44 yA,yEU⟩) kR kR kR ⟨
  gLo (cs:=p2.l) 17 (λW f=>((br.grow f).at_ 10).2.1) uRd (by rw[Rp.len hs.2.2];exact iRd) (hR:=λ_=>l4.out),
  gO 0 (uZ (R.v:Int)),
  oG 1 77 15 (λx=>#[x]) (λx W T f=>by
   obtain rfl:x=uZ (R.v:Int):=T;exact lm W),
  gLo (cs:=wn R.k.val) 5 (λW f=>((br.grow f).at_ 0).2.1) u40 i40 (hR:=λ_=>hq.out),
  eF 2 78 3 79 14 (λx y=>#[x,y]) (λx u W T p f=>by
   obtain rfl:x=vn:=T;obtain rfl:u=vr:=p;exact cf W),
  gO 2 (iZ (R.n:Int)),
  nG 0 76 4 80 5 81 79 (λx y z=>#[x,y,z]) (λx u z W T p e3 f=>by
   obtain rfl:x=vp:=T;obtain rfl:u=vV:=p;obtain rfl:z=iZ (R.n:Int):=e3;refine(f3 W).mono ?_;rintro e W' ⟨H,rfl,E,r,J,B,D⟩;exact⟨_,rfl,E,r,J,XB (kp f) B,Holds.lt D (by rw[s5];decide),D⟩),
  C3 6 82 id (λx W h=>h),
  bL λa W hp=>by
   obtain⟨r,e,E,J,B⟩:=hp.n 7 75 kR kR;exact⟨[(75,.tuple #[lgV r,vy,vz])],lgV r,W,⟨e,yEU⟩,kR,XM _ _,r,rfl,E,J,B⟩,
  bL λa W hp=>by
   obtain⟨r,e,E,J,B⟩:=hp.n 7 75 kR kR;exact⟨[(75,.tuple #[lgV r,vy,vz])],vy,W,⟨e,yEU⟩,kR,XM _ _,rfl⟩,
  bL λa W hp=>by
   obtain⟨r,e,E,J,B⟩:=hp.n 7 75 kR kR;exact⟨[(75,.tuple #[lgV r,vy,vz])],vz,W,⟨e,yEU⟩,kR,XM _ _,rfl⟩,
  tY [.pointer none] 159 (λW W' h f=>⟨_,rfl,kp f,h⟩),
  tY (RG.z 4) 44 (λW W' h f=>⟨_,rfl,kp f,h⟩),
  tY (RG.z 4) 44 (λW W' h f=>⟨_,rfl,kp f,h⟩),yEU⟩ ⟨rfl,rfl,rfl,Xx _,λ_ _=>rfl⟩ ?_
 intro X mw hR f hD;obtain⟨r,e8,lr,iz,Hr⟩:=hR 8 dC;have e9:X 9=vy:=hR 9 dC;have ij:X 10=vz:=hR 10 dC;obtain⟨b2,b7,g7,fm⟩:=hR 11 dC;obtain⟨k3,c8,gr,fs⟩:=hR 12 dC;obtain⟨b3,bf,gw,i8⟩:=hR 13 dC;have d1:=hD 11 12 dC dC dC kR kR kR kR;have d2:=hD 11 13 dC dC dC kR kR kR kR;have d3:=hD 12 13 dC dC dC kR kR kR kR;rw[b7,c8]at d1;rw[b7,bf]at d2;rw[c8,bf]at d3;have n1:b2≠k3:=λe=>d1 (by rw[e])
 have n2:b2≠b3:=λe=>d2 (by rw[e])
 have n3:k3≠b3:=λe=>d3 (by rw[e])
 have m1:r≠b2:=Ew Hr (by rw[s5];decide) fm (λb e=>by cases e);have m2:r≠k3:=Ew Hr (by rw[s5];decide) fs (λb e=>by cases e);have m3:r≠b3:=Ew Hr (by rw[s5];decide) i8 (λb e=>by cases e);rw[<-hb.out]at lr g7 gr gw;have fl:=mk1 (br.adds f [(b2,[.pointer none]),(k3,RG.z 4),(b3,RG.z 4),(r,aA L5)] (by simp;omega) (λx hx=>by
  simp only[YX,X5,or_false]at hx;rcases hx with rfl|rfl|rfl|rfl
  ·exact⟨g7,fm⟩
  ·exact⟨gr,fs⟩
  ·exact⟨gw,i8⟩
  ·exact⟨lr,qP Hr iz⟩))
 dsimp only[bY,YH,ZQ,ZR];simp only[XK,Xt,Xv,Xw];rw[e8,e9,ij,b7,c8,bf];clear hR hD d1 d2 d3 n1 n2 n3 m1 m2 m3 g7 gr gw lr iz Hr fm fs i8 f e8 e9 ij b7 c8 bf br f3 cf lm;refine hG (mw.setCells b2 0 [jZ r]) λmb cq=>?_
 refine hG (mb.setCells k3 0 (wn R.y.val)) λn9 ci=>?_
 refine hG (n9.setCells b3 0 (wn R.z.val)) λms cd=>?_
 have gh:=mk1 (fl.put 11 cq);have i0:=mk1 (gh.put 12 ci);have k7:=mk1 (i0.put 13 cd);refine PW.st cq (Hid.mk' rfl) (fl.th 11) iLg kR ?_;refine PW.st ci M (gh.th 12) i40 (aI _) ?_;refine PW.st cd h5 (i0.th 13) i40 (aI _) ?_;clear fl gh i0 kp hb;refine PW.dn ?_;have J:2<N:=oM;have ie:=mk1 (FQ O J R.y.val R.z.val R.y.isLt R.z.isLt R.n oM ms);rw[M.out,h5.out]at ie;refine Xy ?_;refine PW.begin ?_;refine PW.ro (k7.at_ 12).2.1 M u40 i40 ?_;refine PW.ro (k7.at_ 13).2.1 h5 u40 i40 ?_;refine PW.mv ?_;refine PW.ca ie.out ?_;rintro e j8 ⟨ee,ls,rs,rfl,bd,bu⟩;clear ie;replace bd:=bd.fin (λ_=>-R.z) (λi _=>(Es R.z).symm);replace bu:=bu.fin R.sh (λi _=>QP U J R i);have D:=mk1 ((k7.gets ee (pqS ls R.n λ_=>(-R.z).val) bd).has (pqS rs R.n λi=>(R.sh i).val) (bu.mono λg Z=>k7.nk g Z));clear bd bu ee k7;simp only[XK,Xt,Xv,Xw];refine PW.mv ?_;refine PW.va ls ?_;refine PW.va rs ?_;refine PW.va ls ?_;refine PW.va rs ?_;refine PW.dn ?_;obtain⟨Q,F⟩:=D.out.q;refine Xy ?_;refine(gwL [pE (.agg #[.slice (some ⟨kh,kw,none⟩) R.n k1,.slice (some ⟨kg,kz,none⟩) R.n kb]),pE ls,pLn Q R.n (λi=>(R.a0 i).val) (λi=>(R.s i).val),pE (.agg #[.slice (some ⟨kl,kc,none⟩) R.n kr,.slice (some ⟨kf,kx,none⟩) R.n k4]),pE vy,pE (iZ (R.n:Int)),RG.pS Q R.n (pwN N R.y.val),pLn Q R.n (λi=>sTi N (R.m i).val (pwN N R.y.val i)) (λi=>sTi N (R.q i).val (pwN N R.y.val i)),pE rs,pLn Q R.n (λi=>(R.b0 i).val) (λi=>(R.b1 i).val)] (λW=>kZ j8 W) (λW W' hb h=>h.trans (hb.mono h.size))).tail2 10 kR kR kR ⟨
  gLo (cs:=[.slice (some ⟨kh,kw,none⟩) R.n k1,.slice (some ⟨kg,kz,none⟩) R.n kb]) 13 (λW f=>((D.grow f).at_ 6).2.1) uLi iLi,
  gO 21 ls,
  eF 0 93 1 94 81 (λx y=>#[x,y]) (λx u W T p f=>by
   obtain rfl:x=.agg #[.slice (some ⟨kh,kw,none⟩) R.n k1,.slice (some ⟨kg,kz,none⟩) R.n kb]:=T;obtain rfl:u=ls:=p;have K:=D.grow f;refine(PO O n (λi _=>(R.l i).isLt) (λi _=>(-R.z).isLt) (⟨_,_,rfl,K.vW F 0,K.vW F 1⟩:Ln Q W _ R.n _ _) (K.vW F 5)).mono ?_;rintro e W' ⟨H,rfl,E,J⟩;exact⟨_,rfl,E,(J.mono λg Z=>Z.elim id (K.nkq F g)).fin R.a0 R.s (λi _=>(jP (R.l i) (-R.z)).symm) (λ_ _=>rfl)⟩),
  gLo (cs:=[.slice (some ⟨kl,kc,none⟩) R.n kr,.slice (some ⟨kf,kx,none⟩) R.n k4]) 14 (λW f=>((D.grow f).at_ 7).2.1) uLi iLi,
  gLo (cs:=wn R.y.val) 19 (λW f=>((D.grow f).at_ 12).2.1) u40 i40 (hR:=λ_=>M.out),
  gO 2 (iZ (R.n:Int)),
  eF 4 97 5 98 83 (λx y=>#[x,y]) (λx u W T p f=>by
   obtain rfl:x=vy:=T;obtain rfl:u=iZ (R.n:Int):=p;rw[<-M.out];exact(PC O R.y.val R.y.isLt R.n oM W).mono λe W' ⟨v,E,J,B⟩=>⟨v,E,J,B.mono λg Z=>(D.grow f).nkq F g Z⟩),
  eF 3 96 6 99 82 (λx y=>#[x,y]) (λx u W T p f=>by
   obtain rfl:x=.agg #[.slice (some ⟨kl,kc,none⟩) R.n kr,.slice (some ⟨kf,kx,none⟩) R.n k4]:=T;have K:=D.grow f;refine(Ux O n (λi _=>(R.m i).isLt) (λi _=>(R.q i).isLt) (λi _=>xX O _ i) (⟨_,_,rfl,K.vW F 2,K.vW F 3⟩:Ln Q W _ R.n _ _) p).mono ?_;rintro e W' ⟨H,rfl,E,J⟩;exact⟨_,rfl,E,J.mono λg Z=>K.nkq F g Z⟩),
  gO 22 rs,
  eF 7 100 8 101 81 (λx y=>#[x,y]) (λx u W T p f=>by
   obtain rfl:u=rs:=p;have K:=D.grow f;refine(PO O n (λi _=>Y9 _ O.pos) (λi _=>(R.sh i).isLt) T (K.vW F 6)).mono ?_;rintro e W' ⟨H,rfl,E,J⟩;refine⟨_,rfl,E,(J.mono λg Z=>Z.elim id (K.nkq F g)).fin R.b0 R.b1 (λi _=>?_) (λi _=>?_)⟩
   ·show _=(R.m i*pwF R.y i+R.sh i).val;rw[jP,eX,<-mP U.1];rfl
   ·show _=(R.q i*pwF R.y i).val;rw[eX,<-mP U.1]),yEU⟩ ⟨rfl,rfl,rfl,Xx _,λ_ _=>rfl⟩ ?_
 intro X nl hR f;obtain⟨ma,m8,p,G,I⟩:=(hR 2 dC).ex;obtain⟨mh,oc,e9,ff,gp⟩:=(hR 9 dC).ex;have i4:=mk1 (((((D.grow f).Oy F (pqS ma R.n λi=>(R.a0 i).val) G).Oy F (pqS m8 R.n λi=>(R.s i).val) I).Oy F (pqS mh R.n λi=>(R.b0 i).val) ff).Oy F (pqS oc R.n λi=>(R.b1 i).val) gp);obtain⟨c7,bc,bl,e3⟩:=(cB G).2;obtain⟨bh,bp,bt,e4⟩:=(cB I).2;obtain⟨c0,b8,c5,e5⟩:=(cB ff).2;obtain⟨bm,b9,be,e6⟩:=(cB gp).2;subst e3 e4 e5 e6;dsimp only[bY,YH,ZQ,ZR];simp only[XK,Xt,Xv,Xw];rw[p,e9];clear hR f G I ff gp p e9 D F;refine hG (nl.setCells bj 0 [.slice (some ⟨c7,bc,none⟩) R.n bl,.slice (some ⟨bh,bp,none⟩) R.n bt]) λme f8=>?_
 refine hG (me.setCells b6 0 [.slice (some ⟨c0,b8,none⟩) R.n c5,.slice (some ⟨bm,b9,none⟩) R.n be]) λko de=>?_
 have fr:=mk1 (i4.put 6 f8);have K:=mk1 (fr.put 7 de);refine PW.st f8 (Hid.mk' rfl) (i4.th 6) iLi kR ?_;refine PW.st de (Hid.mk' rfl) (fr.th 7) iLi kR ?_;clear i4 fr;refine PW.dn ?_;refine hG (nv R.c1.val) λg1 h7=>?_
 refine hG (nv R.c2.val) λg6 h6=>?_
 have jv:Hid (XH prog 84 #[.agg #[.slice (some ⟨c7,bc,none⟩) R.n bl,.slice (some ⟨bh,bp,none⟩) R.n bt],.agg #[.slice (some ⟨c0,b8,none⟩) R.n c5,.slice (some ⟨bm,b9,none⟩) R.n be]] ko (rZ ko λe w'=>e=.tuple #[g1,g6])):=by
  have h:=Uy O n (λi _=>⟨(R.a0 i).isLt,(R.s i).isLt,(R.b0 i).isLt,(R.b1 i).isLt⟩) (⟨_,_,rfl,K.get 7,K.get 8⟩:Ln _ ko _ R.n _ _) (⟨_,_,rfl,K.get 9,K.get 10⟩:Ln _ ko _ R.n _ _);rw[kM,kM,kM,<-jP,show Md.pr R.a0 R.b1 R.n+Md.pr R.s R.b0 R.n=R.c1 from rfl,show Md.pr R.s R.b1 R.n=R.c2 from rfl,h7.out,h6.out]at h;exact h
 refine Xy ?_;refine PW.begin ?_;refine PW.ro (cs:=[.slice (some ⟨c7,bc,none⟩) R.n bl,.slice (some ⟨bh,bp,none⟩) R.n bt]) (K.at_ 6).2.1 (Hid.mk' rfl) uLi iLi ?_;refine PW.ro (cs:=[.slice (some ⟨c0,b8,none⟩) R.n c5,.slice (some ⟨bm,b9,none⟩) R.n be]) (K.at_ 7).2.1 (Hid.mk' rfl) uLi iLi ?_;refine PW.gi jv.out λjz eu=>?_
 have jn:=mk1 (K.grow eu);clear jv eu K;refine PW.mv ?_;refine PW.va g1 ?_;refine PW.va g6 ?_;refine hG (jz.heap.size) λmr ej=>?_
 refine hG (jz.alloc (.cells (RG.z 4).toArray 44)) λl2 d4=>?_
 refine hG l2.heap.size λn0 cn=>?_
 refine hG (l2.alloc (.cells (RG.z 4).toArray 44)) λnj ei=>?_
 refine hG (nj.setCells mr 0 (wn R.c1.val)) λm5 ct=>?_
 refine hG (m5.setCells n0 0 (wn R.c2.val)) λoz ec=>?_
 have gn:=mk1 ((jn.new ej d4).new cn ei);have gm:=mk1 (gn.put 15 ct);have i5:=mk1 (gm.put 16 ec);refine PW.al ej d4 ?_;refine PW.al cn ei ?_;refine PW.st ct h7 (gn.th 15) i40 (aI _) ?_;refine PW.st ec h6 (gm.th 16) i40 (aI _) ?_;clear jn gn gm;refine PW.dn ?_;have sC:C1.size=33:=by rw[Y.e1];exact aL _
 have sD:C2.size=33:=by rw[Y.e2];exact aL _
 refine hG (pvl C1) λvC ik=>?_
 refine hG (pvl C2) λvD lc=>?_
 have ll:Hid (∀W,XH prog 14 #[g1,v1] W (rZ W λe w'=>e=vC)):=λW=>by
  have h:=mB C O R.c1.isLt R.t1.isLt W;rw[zA C k R.c1 R.t1,show wP ((aD C k).cm (hPV C) (gPG C) R.c1 R.t1)=C1 from Y.e1.symm,h7.out,hw.out,ik.out]at h;exact h
 have l9:Hid (∀W,XH prog 14 #[g6,v2] W (rZ W λe w'=>e=vD)):=λW=>by
  have h:=mB C O R.c2.isLt R.t2.isLt W;rw[zA C k R.c2 R.t2,show wP ((aD C k).cm (hPV C) (gPG C) R.c2 R.t2)=C2 from Y.e2.symm,h6.out,h9.out,lc.out]at h;exact h
 refine Xy ?_;refine AW.beg 9 9 (Iv.mx w _ _ 10 l false) (i5.out.drew.wk 10) ?_;refine AW.ro 0 (λW ⟨_,h⟩=>(h.at_ 15).2.1) h7 u40 i40 ?_;refine AW.ro 1 (λW ⟨_,h⟩=>(h.at_ 4).2.1) hw u40 i40 ?_;refine AW.ro 3 (λW ⟨_,h⟩=>(h.at_ 16).2.1) h6 u40 i40 ?_;refine AW.ro 4 (λW ⟨_,h⟩=>(h.at_ 5).2.1) h9 u40 i40 ?_;refine AW.gi 2 (λ_=>ll _) λoo e7=>?_
 refine AW.va 6 (oZ l 66) ?_;refine AW.gi 5 (λ_=>l9 _) λo7 f5=>?_
 have fq:=mk1 ((i5.drew.grow e7).grow f5);clear e7 f5 i5 ll l9;refine hG (o7.setCells l 66 (aA C1)) λnb dd=>?_
 refine hG (nb.setCells l 99 (aA C2)) λgs ep=>?_
 have ky:=mk1 (Rp.V8 hs.2.2 (fq.at_ 10) sC);refine hG ({ p2 with c:=C1 }:Rp) λp3 fj=>?_
 rw[fj.out]at ky;have ba:=mk1 (fq.upd 10 dd ky.2.1);have h0:=mk1 (Rp.V7 ky.2.2 (ba.at_ 10) sD);refine hG ({ p3 with d:=C2 }:Rp) λp4 ib=>?_
 rw[ib.out]at h0;have hr:=mk1 (ba.upd 10 ep h0.2.1);refine AW.ss 7 ik (bQ C1) (by rw[aB sC];exact iCP) dd (λ_=>⟨ky.1,ba.out.wk 10⟩) ?_;refine AW.nx 8 (oZ l 99) ?_;refine AW.ss 9 lc (bQ C2) (by rw[aB sD];exact iCP) ep (λ_=>⟨h0.1,hr.out.wk 10⟩) ?_;refine AW.dn λ_=>?_
 clear fq ba ky;refine hG (aX L6) λL7 gk=>?_
 have s7:L7.size=32:=by rw[<-gk.out];exact bD _ _
 refine hG (nv R.x.val) λvx B=>?_
 refine hG (X6 p4.l.toArray) λvq l1=>?_
 refine hG (lgV r) λvl hk=>?_
 have m0:Hid (XH prog 85 #[vq,vl] gs (Ret λe w'=>SP.Only r 0 32 gs w'/\Holds encB w' r 0 L7/\e=vx)):=by
  have h:=PN O p4 h0.2.2 r L5 gs (hr.log 14) s5;rw[<-fg.out,show mdL (aX (aX L3)) p4.c p4.d=L6 by rw[<-ib.out,<-fj.out];exact Y.l6.symm,nJ O U Y.x,gk.out,l1.out,hk.out,B.out]at h;exact h
 refine Xy ?_;refine PW.begin ?_;refine PW.ro (cs:=p4.l) (hr.at_ 10).2.1 l1 uRd (by rw[Rp.len h0.2.2];exact iRd) ?_;refine PW.ro (hr.at_ 11).2.1 hk uLg iLg ?_;refine PW.ca m0.out ?_;rintro e j5 ⟨hO,hH,he⟩;obtain rfl:=he.symm;have lw:=mk1 (hr.say 14 hO hH);clear m0 hO hH hr;simp only[XK,Xt,Xv,Xw];refine hG (j5.heap.size) λny df=>?_
 refine hG (j5.alloc (.cells (RG.z 4).toArray 44)) λna cv=>?_
 refine hG (na.setCells ny 0 (wn R.x.val)) λox ey=>?_
 have ft:=mk1 (lw.new df cv);have i2:=mk1 (ft.put 17 ey);refine PW.al df cv ?_;refine PW.st ey B (ft.th 17) i40 (aI _) ?_;clear lw ft;refine PW.dn ?_;have i1:Hid (∀(a b c:Nat->Fin N) (v:Xu) (Q:Nat->Prop) (W:Xs),(∀i,c i=a i+b i*R.x)->Ln Q W v R.n (λi=>(a i).val) (λi=>(b i).val)->XH prog 86 #[v,vx] W (rZ W λe w'=>SLq (W.heap.size<=·) w' e R.n (λi=>(c i).val))):=λa b c v Q W hc h=>by
  have h:=UC O n (λi _=>(a i).isLt) (λi _=>(b i).isLt) R.x.isLt h;rw[B.out]at h;refine h.mono ?_;rintro e w' ⟨H,rfl,E,J⟩;exact⟨_,rfl,E,J.fin c λi _=>by rw[hc,jP,eX]⟩
 refine Xy ?_;refine AW.beg 7 7 (Iv.mp w _ _ false) i2.out.drew ?_;refine AW.ro 0 (cs:=[.slice (some ⟨c7,bc,none⟩) R.n bl,.slice (some ⟨bh,bp,none⟩) R.n bt]) (λW h=>(h.at_ 6).2.1) (Hid.mk' rfl) uLi iLi ?_;refine AW.ro 1 (λW h=>(h.at_ 17).2.1) B u40 i40 ?_;refine AW.ro 3 (cs:=[.slice (some ⟨c0,b8,none⟩) R.n c5,.slice (some ⟨bm,b9,none⟩) R.n be]) (λW h=>(h.at_ 7).2.1) (Hid.mk' rfl) uLi iLi ?_;refine AW.ro 4 (λW h=>(h.at_ 17).2.1) B u40 i40 ?_;refine AW.ca 2 (λh=>i1 R.a0 R.s R.a _ _ _ (λ_=>rfl) (⟨_,_,rfl,h.get 7,h.get 8⟩:Ln _ _ _ R.n _ _)) (λe w' h=>h.1) ?_;rintro av p9 ⟨d9,l0⟩;simp only[XK,Xt,Xv,Xw];refine AW.ca 5 (λh=>i1 R.b0 R.b1 R.b _ _ _ (λ_=>rfl) (⟨_,_,rfl,h.get 9,h.get 10⟩:Ln _ _ _ R.n _ _)) (λe w' h=>h.1) ?_;rintro bv bi ⟨du,io⟩;simp only[XK,Xt,Xv,Xw];have jw:=mk1 (i2.drew.gets d9 (pqS av R.n λi=>(R.a i).val) l0);have bo:=mk1 (jw.gets du (pqS bv R.n λi=>(R.b i).val) io);clear i1 d9 du l0 io i2 jw;refine AW.nx 6 av ?_;refine AW.nx 7 bv ?_;refine AW.dn λ_=>?_
 refine hG (nv R.t.val) λvt ju=>?_
 have jp:Hid (XH prog 87 #[av,bv] bi (rZ bi λe w'=>e=vt)):=by
  have h:=BP O R.n oM (λi=>(R.a i).val) (λi=>(R.b i).val) (λi _=>(R.a i).isLt) (λi _=>(R.b i).isLt) av bv bi (bo.get 11) (bo.get 12);rw[kM,show Md.pr R.a R.b R.n=R.t from rfl,ju.out]at h;exact h
 refine Xy ?_;refine PW.begin ?_;refine PW.mv ?_;refine PW.mv ?_;refine PW.gi jp.out λog dy=>?_
 have fa:=mk1 (bo.grow dy);clear jp dy bo;refine PW.va (oZ l 140) ?_;refine hG (og.setCells l 140 (wn R.t.val)) λoy cx=>?_
 have ka:=mk1 (Rp.V5 h0.2.2 (fa.at_ 10) R.t.val);refine hG ({ p4 with t:=R.t.val }:Rp) λp5 iu=>?_
 rw[iu.out]at ka;have fb:=mk1 (fa.upd 10 cx ka.2.1);refine PW.st cx ju ka.1 i40 (aI _) ?_;clear fa h0;refine PW.dn ?_;refine hG (nv (R.t1*R.x).val) λu1 o8=>?_
 refine hG (nv (R.t2*R.x).val) λu2 n4=>?_
 refine hG (nv (R.t2*R.x*R.x).val) λu3 oe=>?_
 refine hG (nv (R.t1*R.x+R.t2*R.x*R.x).val) λu4 md=>?_
 refine hG (nv (R.z*R.z).val) λu5 mq=>?_
 refine hG (nv (R.z*R.z*R.k).val) λu6 mg=>?_
 refine hG (nv R.tau.val) λu7 iq=>?_
 have HT:=mk7 (λW=>yP O R.t1 R.x W) (λW=>yP O R.t2 R.x W) (λW=>yP O (R.t2*R.x) R.x W) (λW=>Sy O (R.t1*R.x) (R.t2*R.x*R.x) W) (λW=>yP O R.z R.z W) (λW=>yP O (R.z*R.z) R.k W) (λW=>Sy O (R.t1*R.x+R.t2*R.x*R.x) (R.z*R.z*R.k) W);rw[show R.t1*R.x+R.t2*R.x*R.x+R.z*R.z*R.k=R.tau from rfl,o8.out,n4.out,oe.out,md.out,mq.out,mg.out,iq.out,hw.out,h9.out,B.out,h5.out,hq.out]at HT;refine Xy ?_;refine AW.beg 16 16 (Iv.mp w _ _ true) fb.out.drew ?_;refine AW.ro 0 (λW h=>(h.at_ 4).2.1) hw u40 i40 ?_;refine AW.ro 1 (λW h=>(h.at_ 17).2.1) B u40 i40 ?_;refine AW.ro 3 (λW h=>(h.at_ 5).2.1) h9 u40 i40 ?_;refine AW.ro 4 (λW h=>(h.at_ 17).2.1) B u40 i40 ?_;refine AW.ro 6 (λW h=>(h.at_ 17).2.1) B u40 i40 ?_;refine AW.ro 9 (λW h=>(h.at_ 13).2.1) h5 u40 i40 ?_;refine AW.ro 10 (λW h=>(h.at_ 13).2.1) h5 u40 i40 ?_;refine AW.ro 12 (λW h=>(h.at_ 0).2.1) hq u40 i40 ?_;refine AW.gi 2 (λ_=>HT.1 _) λx1 G=>?_
 refine AW.gi 5 (λ_=>HT.2.1 _) λx2 I=>?_
 refine AW.gi 7 (λ_=>HT.2.2.1 _) λx3 j6=>?_
 refine AW.gi 8 (λ_=>HT.2.2.2.1 _) λx4 jf=>?_
 refine AW.gi 11 (λ_=>HT.2.2.2.2.1 _) λx5 jh=>?_
 refine AW.gi 13 (λ_=>HT.2.2.2.2.2.1 _) λx6 ir=>?_
 refine AW.gi 14 (λ_=>HT.2.2.2.2.2.2 _) λnm jg=>?_
 have fx:=mk1 (((((((fb.drew.grow G).grow I).grow j6).grow jf).grow jh).grow ir).grow jg);clear G I j6 jf jh ir jg fb HT;refine AW.nx 15 (oZ l 132) ?_;refine hG (nm.setCells l 132 (wn R.tau.val)) λow ki=>?_
 have b5:=mk1 (Rp.V4 ka.2.2 (fx.at_ 10) R.tau.val);refine hG ({ p5 with u:=R.tau.val }:Rp) λp6 jx=>?_
 rw[jx.out]at b5;have gv:=mk1 (fx.upd 10 ki b5.2.1);refine AW.fi (us:=wn R.tau.val) iq (aI _) i40 (λ_=>⟨b5.1,?_⟩);rw[ki.out];clear fx ka ki;refine hG (nv (R.rho*R.x).val) λu8 m6=>?_
 refine hG (nv R.mu.val) λu9 lx=>?_
 have HT:=mk2 (λW=>yP O R.rho R.x W) (λW=>Sy O R.al (R.rho*R.x) W);rw[show R.al+R.rho*R.x=R.mu from rfl,m6.out,lx.out,hl.out,hy.out,B.out]at HT;refine Xy ?_;refine AW.beg 6 6 (Iv.mp w _ _ true) gv.out.drew ?_;refine AW.ro 0 (λW h=>(h.at_ 2).2.1) hl u40 i40 ?_;refine AW.ro 1 (λW h=>(h.at_ 3).2.1) hy u40 i40 ?_;refine AW.ro 2 (λW h=>(h.at_ 17).2.1) B u40 i40 ?_;refine AW.gi 3 (λ_=>HT.1 _) λx1 G=>?_
 refine AW.gi 4 (λ_=>HT.2 _) λo1 I=>?_
 have g2:=mk1 ((gv.drew.grow G).grow I);clear G I gv HT;refine AW.nx 5 (oZ l 136) ?_;refine hG (o1.setCells l 136 (wn R.mu.val)) λg4 k0=>?_
 have kt:=mk1 (Rp.V6 b5.2.2 (g2.at_ 10) R.mu.val);have ez:Hid (({ p6 with m:=R.mu.val }:Rp)=pz):=by
  rw[<-L.out,<-jx.out,<-iu.out,<-ib.out,<-fj.out,<-g8.out,<-gj.out];rfl
 rw[ez.out]at kt;have kn:=mk1 (g2.upd 10 k0 kt.2.1);have bs:pz.Ok:=kt.2.2;refine AW.fi (us:=wn R.mu.val) lx (aI _) i40 (λ_=>⟨kt.1,?_⟩);rw[k0.out];clear g2 b5 kt k0;refine hG (X6 pz.l.toArray) λmj h8=>?_
 refine hG (aX L8) λL9 bb=>?_
 have s9:L9.size=32:=by rw[<-bb.out];exact bD _ _
 refine hG (nv R.w.val) λvw c3=>?_
 have j3:Hid (XH prog 88 #[mj,vl] g4 (Ret λe w'=>SP.Only r 0 32 g4 w'/\Holds encB w' r 0 L9/\e=vw)):=by
  have h:=P7 O pz bs (by rw[<-L.out];exact R.tau.isLt) (by rw[<-L.out];exact R.mu.isLt) (by rw[<-L.out];exact R.t.isLt) r L7 g4 (kn.log 14) s7;rw[<-gk.out,show enL (aX L6) pz.u pz.m pz.t=L8 by rw[<-L.out];exact Y.l8.symm,nJ O U Y.w,bb.out,h8.out,hk.out,c3.out]at h;exact h
 refine Xy ?_;refine PW.begin ?_;refine PW.ro (cs:=pz.l) (kn.at_ 10).2.1 h8 uRd (by rw[Rp.len bs];exact iRd) ?_;refine PW.ro (kn.at_ 11).2.1 hk uLg iLg ?_;refine PW.ca j3.out ?_;rintro e ly ⟨hO,hH,he⟩;obtain rfl:=he.symm;have ln:=mk1 (kn.say 14 hO hH);clear j3 hO hH he kn;simp only[XK,Xt,Xv,Xw];refine hG (ly.heap.size) λnc ea=>?_
 refine hG (ly.alloc (.cells (RG.z 4).toArray 44)) λo5 ek=>?_
 refine hG (o5.setCells nc 0 (wn R.w.val)) λml d0=>?_
 have i7:=mk1 (ln.new ea ek);have n8:=mk1 (i7.put 18 d0);refine PW.al ea ek ?_;refine PW.st d0 c3 (i7.th 18) i40 (aI _) ?_;clear ln i7;refine PW.dn ?_;have Kd:=mk1 n8.out.drew;have fh:=mk1 (Jj O R.n gu n (gGT P) (hGT P) (uGT P) (λi hi=>⟨((oH C U.1 R.n).tl i hi).ok,by show 1<=512;decide⟩) (nM C U.1).ok (by show 1<=512;decide) R.y.val R.w.val R.y.isLt R.w.isLt _ ml.drew Kd.nk (Kd.get 4));rw[M.out,c3.out]at fh;refine Xy ?_;refine AW.beg 10 10 (Iv.mx w _ _ 14 r true) (Kd.out.wk 14) ?_;refine AW.ro 0 (cs:=pz.l) (λW ⟨_,h⟩=>(h.at_ 10).2.1) h8 uRd (by rw[Rp.len bs];exact iRd) ?_;refine AW.ro 1 (λW ⟨_,h⟩=>(h.at_ 11).2.1) hk uLg iLg ?_;refine AW.ro 2 (cs:=[.slice (some ⟨ga,oa,none⟩) R.n ca,.slice (some ⟨gb,ob,none⟩) R.n cb,sZ gc mc cc]) (λW ⟨_,h⟩=>(h.at_ 8).2.1) (Hid.mk' rfl) uGr iGr ?_;refine AW.ro 3 (λW ⟨_,h⟩=>(h.at_ 12).2.1) M u40 i40 ?_;refine AW.ro 4 (λW ⟨_,h⟩=>(h.at_ 18).2.1) c3 u40 i40 ?_;refine AW.mv 6 ?_;refine AW.mv 7 ?_;refine AW.ca 5 (λ_=>fh.out) (λe w' h=>h.1) ?_;rintro tv c4 ⟨cg,k2⟩;simp only[XK,Xt,Xv,Xw];have H:=mk1 (Kd.grow cg);refine hG (((aD C k).pst (chF N) ivF u t q t).s) λLx m7=>?_
 have jd:Hid (XH prog 90 #[vl,tv,av,bv] c4 (Ret (PhR c4 r t Lb Rb Lx Ab Bb))):=by
  obtain⟨Q,F⟩:=H.out.q;have E:∀g,Q g->g≠r:=H.ne F 14;rw[F.out]at k2;have h:=NY C O k U t ht q u (gGT P) (qD N R.y.val (hGT P)) ((uGT P).map (tmT N R.w.val)) (by rw[nq];exact wQ C U.1 _) (by rw[mf];exact OB C k U R _) (by rw[hu];exact(nM C U.1).tm C k R.w) (by show 0<1;decide) (by show 1<=16;decide) Lb Rb nz o2 r tv av bv c4 (by rw[lh,bb.out];exact H.log 14) (by rw[lh,bb.out];exact s9) (by rw[<-hn];exact k2.mono E) (by rw[<-hn,mz];exact SLq.mono (H.vW F 11) E) (by rw[<-hn,mn];exact SLq.mono (H.vW F 12) E);rw[m7.out,<-nn,<-n7,hk.out]at h;exact h
 clear fh cg k2 Kd;refine AW.cw 8 (λ_=>jd.out) (λe w' _ h=>⟨_,H.say 14 h.on h.lg rfl rfl⟩) ?_;rintro e mo bn;obtain⟨vL,vR,vA,vB,rfl,tL,tR,eA,eB⟩:=bn.ex;have j9:=mk1 (H.say 14 bn.on bn.lg);have l8:=(H.at_ 1).1;clear jd bn;simp only[XK,Xt,Xv,Xw];have ic:=mk1 (QF O pz bs (by rw[<-L.out];exact R.tau.isLt) (by rw[<-L.out];exact R.mu.isLt) (by rw[<-L.out];exact R.t.isLt) vL vR vA vB ⟨tL.one.2,tR.one.2,eA.one.2,eB.one.2⟩ mo);rw[h8.out]at ic;refine AW.ca 9 (λ_=>ic.out) (λe w' h=>h.1) ?_;rintro e ip ⟨E,ra,rb,rc,bq,re,rf,bk,rfl,hT⟩;simp only[XK,Xt,Xv,Xw];have fd:=mk1 (j9.grow E);have bz:vA.oneCell'=true/\vB.oneCell'=true/\vL.oneCell'=true/\vR.oneCell'=true:=⟨eA.one.2,eB.one.2,tL.one.2,tR.one.2⟩
 have RA:Hid (RgA c4.heap.size t pz Lb Rb Ab Bb (.agg #[r33 ra,r33 rb,r33 rc,r33 bq,r32 re,r32 rf,r32 bk,vL,vR,vA,vB]) ip):=⟨_,_,_,_,_,_,_,_,_,_,_,rfl,hT.mono2 λ_ _ _=>trivial,tL.below E,tR.below E,(eA.keep (Kq.of_below E)).mono2 λ_ _ _=>trivial,(eB.keep (Kq.of_below E)).mono2 λ_ _ _=>trivial⟩
 clear hT tL tR eA eB E ic j9;refine hG (ip.setCells k8 0 [r33 ra,r33 rb,r33 rc,r33 bq,r32 re,r32 rf,r32 bk,vL,vR,vA,vB]) λpc km=>?_
 have ig:=mk1 (fd.put 1 km);have RB:=mk1 (RA.set (us:=[r33 ra,r33 rb,r33 rc,r33 bq,r32 re,r32 rf,r32 bk,vL,vR,vA,vB]) (fd.at_ 1) l8);rw[km.out]at RB;refine AW.fi (us:=[r33 ra,r33 rb,r33 rc,r33 bq,r32 re,r32 rf,r32 bk,vL,vR,vA,vB]) (Hid.mk' rfl) (by simp only[yAJ,yB5,yCq,bz.1,bz.2.1,bz.2.2.1,bz.2.2.2,show ∀g,(r33 g).oneCell'=true from λ_=>rfl,show ∀g,(r32 g).oneCell'=true from λ_=>rfl,yEc]) iAr (λ_=>⟨fd.th 1,?_⟩);rw[km.out];have KE:=mk2 ig.bl (YP H.bl.size RB.out);have K8:=ig.at_ 1;refine wp_ret ?_;refine XE (aF 8 66 rfl K8 rfl uAr iAr) rfl ?_;exact⟨_,rfl,KE.1,_,KE.2.1,KE.2.2⟩
def Wd(n t:Nat):Prop:=n=2^t/\3<=t/\t<=6
theorem Wd.hv{n t:Nat}(h:Wd n t)(W:Xs):XH prog 73 #[iZ n] W (rZ W λe w'=>e=.tuple #[iZ t,.bool true]):=by
 obtain⟨rfl,-,k⟩:=h;rw[<-Si t k];exact So (2^t) (Rl t k) W
theorem Wd.eight{n t:Nat}(h:Wd n t):8<=n:=by
 obtain⟨rfl,k,-⟩:=h;exact Y4 (n:=2) dC k
theorem PU{n t:Nat}(h:Wd n t)(w:Xs):XH prog 40 #[iZ n] w (rZ w λe w'=>e=.bool true):=by
 have H:=mk1 (h.hv w);have d:(8:Int)<=(n:Int):=by have:=h.eight;omega
 clear h;go_enter func40,ntmps40;go_wp2_with fail
 refine H.mono ?_;rintro e f ⟨c,rfl,b,rfl⟩;have k:=mk1 b;go_wp2;go_ret;exact⟨_,rfl,k.out,rfl⟩
theorem GH{n t:Nat}(h:Wd n t)(w:Xs):XH prog 41 #[iZ n] w (rZ w λe w'=>e=uZ ((2^n-1:Nat):Int)):=by
 obtain⟨rfl,b,c⟩:=h;have k:t=3\/t=4\/t=5\/t=6:=oM;rcases k with rfl|rfl|rfl|rfl
 all_goals
  go_enter func41,ntmps41;go_wp2;go_ret;exact⟨_,rfl,XM _ _,rfl⟩
end
section
open SPA
variable {P:Nat}[NeZero P]{N:Nat}
def opC(k a b:Nat):List Xu:=[iZ k,uZ a,uZ b]
theorem PV(n:Nat)(k:1<=n)(c:n<=3):Gives 35 #[iZ n] (.bool true):=λw=>by
 have b:(1:Int)<=(n:Int):=by omega
 have e3:(n:Int)<=3:=by omega
 go_enter func35,ntmps35;go_wp2;go_ret;exact⟨_,rfl,XM _ _,rfl⟩
theorem uOp:(prog.underlying 26).map (·.isRow)=some true:=kR
theorem iOp:(prog.info? 26).map (·.size)=some 3:=kR
theorem zZ:(prog.underlying 24).map (·.isRow)=some false:=kR
theorem G7(k a b:Nat)(w:Xs):(Yl 26 (.agg (opC k a b).toArray)).run prog w=.ok (jZ w.heap.size) (w.alloc (.cells (opC k a b).toArray 26)):=kR
theorem VC(k a b:Nat):Gives 36 #[.agg (opC k a b).toArray] (uZ a):=λw=>by
 refine hG w.heap.size λf c=>?_
 refine hG (w.alloc (.cells (opC k a b).toArray 26)) λg d=>?_
 have e:=mk1 ((Mp.start w).new c d);have B:=G7 k a b w;rw[c.out,d.out]at B;go_enter func36,ntmps36;refine Xy ?_;refine PW.begin ?_;refine PW.ns B ?_;refine PW.va (uZ 0) ?_;refine PW.dn ?_;refine Xy ?_;refine PW.begin ?_;refine PW.va (oZ f 1) ?_;refine PW.ce ((e.out.at_ 0).2.1 1 _ rfl) zZ ?_;refine PW.va (uZ a) ?_;refine PW.dn ?_;go_wp2;go_ret;exact⟨_,rfl,e.out.bl,rfl⟩
theorem VB(k a b:Nat):Gives 38 #[.agg (opC k a b).toArray] (uZ b):=λw=>by
 refine hG w.heap.size λf c=>?_
 refine hG (w.alloc (.cells (opC k a b).toArray 26)) λg d=>?_
 have e:=mk1 ((Mp.start w).new c d);have B:=G7 k a b w;rw[c.out,d.out]at B;go_enter func38,ntmps38;refine Xy ?_;refine PW.begin ?_;refine PW.ns B ?_;refine PW.va (uZ 0) ?_;refine PW.dn ?_;refine Xy ?_;refine PW.begin ?_;refine PW.va (oZ f 2) ?_;refine PW.ce ((e.out.at_ 0).2.1 2 _ rfl) zZ ?_;refine PW.va (uZ b) ?_;refine PW.dn ?_;go_wp2;go_ret;exact⟨_,rfl,e.out.bl,rfl⟩
def sdW(N:Nat):Nat->Nat
 | 0=>sMi N 0 1
 | _=>1
def sdL:Nat->ByteArray
 | 0=>⟨#[105,110]⟩
 | _=>⟨#[111,117,116]⟩
def sdP:Nat->ByteArray
 | 0=>⟨#[112,114,111,111,102,32,105,110]⟩
 | _=>⟨#[112,114,111,111,102,32,111,117,116]⟩
def sdA:Nat->ZY
 | 0=>36
 | _=>38
def sdC(N i:Nat):List Xu:=[.string (sdL i),.string (sdP i),.func (.func (sdA i)) #[] #[]]++wn (sdW N i)
def sdH(m:Nat):List Xu:=[.string (sdL 0),.string (sdP 0),.func (.func (sdA 0)) #[] #[]]++wn m
theorem Vg(m:Nat)(w:Xs):(Yr 57 2 #[(0,.agg (sdH m).toArray),(1,.agg (sdC N 1).toArray)]).run prog w=.ok (sZ w.heap.size 2 2) (w.alloc (.cells ((sdH m)++sdC N 1).toArray 61)):=kR
theorem wG(O:Ord N)(w:Xs):XH prog 17 #[] w (rZ w λe w'=>∃g,e=sZ g 2 2/\w.heap.size<=g/\Row w' g (sdC N 0++sdC N 1)):=by
 have i:1<N:=by have:=O.n2;omega
 have H:=mk3 (rQ 1 (by omega)) (Em O i) True.intro;obtain⟨m,l⟩:=hE (sMi N 0 1);have p:sdC N 0=sdH m:=by rw[<-l.out];rfl
 rw[p];rw[l.out]at H;clear p l;go_enter func17,ntmps17;refine Xy ?_;refine PW.begin ?_;refine PW.va (.slice none 0 0) ?_;refine PW.dn ?_;refine Xy ?_;refine PW.begin ?_;refine PW.gi (H.out.1 w) λr k=>?_
 refine PW.gi (H.out.2.1 r) λq b=>?_
 refine PW.va (.agg (sdH m).toArray) ?_;refine PW.gi (H.out.1 q) λf c=>?_
 refine PW.va (.agg (sdC N 1).toArray) ?_;have n:=mk1 ((k.trans (b.mono k.size)).trans (c.mono (XB k.size b.size)));clear k b c H;refine hG f.heap.size λg j=>?_
 refine hG (f.alloc (.cells ((sdH m)++sdC N 1).toArray 61)) λs d=>?_
 have B:=Vg (N:=N) m f;rw[j.out,d.out]at B;have o:=mk1 ((Mp.start f).new j d);refine PW.ns B ?_;refine PW.va (sZ g 2 2) ?_;refine PW.dn ?_;go_wp2;go_ret;exact⟨_,rfl,n.out.trans (o.out.bl.mono n.out.size),g,rfl,by rw[<-j.out];exact n.out.size,o.out.at_ 0⟩
end
section
variable {P:Nat}[NeZero P]{N:Nat}
def kSc(N:Nat)(T:Bs):Nat:=lN (mN N (lC T.toList 64))
theorem KL(O:Ord N)(T:Bs):kSc N T<N:=Kb O (oU O _)
theorem DZ(O:Ord N)(p:Nat)(T:Bs)(w:Xs)(s:T.size=32)(y:Holds encB w p 0 T):
 XH prog 72 #[sZ p 32 32] w (rZ w λe w'=>e=nv (kSc N T)):=by
 obtain⟨c,k⟩:∃c,Hid (w.alloc (.cells #[uZ 0,uZ 0,uZ 0,uZ 0] 44)=c):=⟨_,rfl⟩
 have f:Hid (Row c w.heap.size [uZ 0,uZ 0,uZ 0,uZ 0]/\kZ w c/\Holds encB c p 0 T):=by rw[<-k.out];exact⟨row_new w _ _,aC w _,Holds.below y (aC w _) (Holds.lt y oM)⟩
 clear y;have j:=oU O (lC T.toList 64);have i:=Gf O j;have o:=Ck O p T c s f.2.2;have A:Hid (kSc N T=lN (mN N (lC T.toList 64))):=rfl;generalize mN N (lC T.toList 64)=m at i o A j;rw[A.out];generalize lN m=x at i⊢;obtain⟨C,q⟩:∃C,Hid (nv m=C):=⟨_,rfl⟩
 rw[q.out]at i o;go_enter func72,ntmps72;go_wp2_with fail
 rw[k.out];clear k;refine o.mono ?_;rintro e t ⟨v,rfl,u,rfl⟩;have n:Hid (Row t w.heap.size [uZ 0,uZ 0,uZ 0,uZ 0]/\kZ w t):=⟨f.1.below u,f.2.1.trans (u.mono f.2.1.size)⟩
 clear u f o;go_wp2_with fail
 refine(i t).mono ?_;rintro e z ⟨v,rfl,b,rfl⟩;have r:Hid (Row z w.heap.size [uZ 0,uZ 0,uZ 0,uZ 0]/\kZ w z):=⟨n.1.below b,n.2.trans (b.mono n.2.size)⟩
 clear b n i;obtain⟨l,d⟩:∃l,Hid (z.setCells w.heap.size 0 (wn x)=l):=⟨_,rfl⟩
 have a:Hid (Row l w.heap.size (wn x)/\kZ w l):=by rw[<-d.out];exact⟨r.1.put rfl,RG.below_setCells (Xx _) _ _ _ r.2⟩
 obtain⟨B,g⟩:∃B,Hid (nv x=B):=⟨_,rfl⟩
 rw[g.out];go_wp2_with (refine X8 rfl 44 _ _ rfl w.heap.size 0 (wn x).toArray ?_ ?_ ?_ ?_ ?_ ?_;rfl;exact g.symm;exact r.1.2.2;exact i40;exact aI x;rw[show(wn x).toArray.toList=wn x from rfl,d.out])
 refine XE (aF 2 44 rfl a.1 rfl u40 i40) rfl ?_;exact⟨_,rfl,a.2,rfl⟩
theorem Ax{w:Xs}{q:Option YW}{n c:Nat}{b:Bs}(h:PartOk w (.slice q n c) b.toList):(convert 23 9 (.slice q n c)).run prog w=.ok (.string ⟨b⟩) w:=by
 obtain⟨a,i,l,cap,k,m,o,p,-,d⟩:=h;cases m
 obtain rfl:=Array.ext' o;rcases d with d|⟨rfl,g⟩
 ·have e:k=#[]:=Array.eq_empty_of_size_eq_zero d;subst e;cases q with
  | none=>exact run_convert_bytes_nil (P:=prog) (w:=w) 23 5 slice22 int5 0 c 9 str9
  | some a=>exact run_convert_bytes_back (P:=prog) w 23 9 5 a c [] slice22 int5 str9 (λj f=>by cases f)
 ·exact SP.conv_str prog 23 9 5 slice22 int5 str9 w i l k.size c k g rfl
theorem Xi(a b:Bs):((⟨a⟩:ByteArray).toList == (⟨b⟩:ByteArray).toList)=decide (a=b):=by
 by_cases h:a=b
 ·subst h;simp
 ·rw[decide_eq_false h];have:¬((⟨a⟩:ByteArray).toList=(⟨b⟩:ByteArray).toList):=λe=>by
   rw[yCP,yCP]at e;exact h (yDx.1 e)
  simpa using this
theorem OG(q i:Option YW)(n c f g:Nat)(b d:Bs)(w:Xs)(hv:PartOk w (.slice q n c) b.toList)(k:PartOk w (.slice i f g) d.toList):XH prog 12 #[.slice q n c,.slice i f g] w λe w'=>e=.returned (.bool (decide (b=d)))/\w'=w:=by
 have l:=Ax hv;have m:=Ax k;have j:=Xi b d;clear hv k;go_enter func12,ntmps12;go_wp2;go_ret;exact⟨by first|rfl|simp[j],rfl⟩
theorem ED(b:Bs):(yL b).size=32:=by unfold yL;exact bV _ _
theorem Er(a b:Bs):(lP a b).size=32:=by unfold lP;exact bV _ _
def ksB(N:Nat)(S:Nat->Nat)(k:Bs)(n:Nat)(l:List UInt8):Bs:=if k.size=32/\n<=16 then bx (kSc N (yY S k n l)) else #[]
theorem I4(O:Ord N)(I:Option YW)(F sc:Nat)(k:Bs)(d:ByteArray)(y:d.size<=65536)(q:Option YW)(n c:Nat)(S:Nat->Nat)(w:Xs)(V:n<=1048576)(Q:PartOk w (.slice I F sc) k.toList)(z:F=k.size)(R:Dw w q n S):
 XH prog 39 #[.slice I F sc,.string d,.slice q n c] w (rZ w λe w'=>∃v,e=.tuple #[v,iZ (kdE k n:Int)]/\zY w' v (ksB N S k n d.data.toList).toList):=by
 have hd:=Dx I F sc k d y q n c S w V Q z R;clear Q R z;by_cases b:k.size=32/\n<=16
 ·have hE:kdE k n=0:=by unfold kdE;rw[yES b.1,yES b.2]
  have u:ksB N S k n d.data.toList=bx (kSc N (yY S k n d.data.toList)):=by unfold ksB;rw[yES b]
  rw[hE,u];have m:=AN S k n d.data.toList;generalize yY S k n d.data.toList=T at hd m⊢;have H:=Hid.mk2 b;have p:=Hid.mk2 (λr w (h:Holds encB w r 0 T)=>DZ O r T w m h);have l:=Hid.mk2 (nS O (KL O T));have i:=cU (kSc N T);generalize kSc N T=x at p l i⊢;generalize bx x=B at l i⊢;obtain⟨M,G⟩:∃M,Hid (nv x=M):=⟨_,rfl⟩
  rw[G.out]at p l;clear hE u b;go_enter func39,ntmps39;go_wp2_with fail
  refine hd.mono ?_;rintro e o ⟨v2,rfl,g,f⟩;obtain⟨r,rfl,W,K⟩:∃r,v2=.tuple #[sZ r 32 32,iZ 0]/\w.heap.size<=r/\Holds encB o r 0 T:=by
   rcases f with⟨f,-⟩|⟨-,f⟩
   ·exact absurd H.out f
   ·exact f
  have s:Hid (kZ w o/\Holds encB o r 0 T):=⟨g,K⟩
  clear g f W K hd;go_wp2_with fail
  refine(p r o s.2).mono ?_;rintro e P ⟨Y,rfl,t,rfl⟩;have J:Hid (kZ w P):=s.1.trans (t.mono s.1.size);have C:=l.out P;clear t s;go_wp2_with fail
  refine C.mono ?_;rintro e U ⟨X,rfl,A,E,rfl⟩;have L:Hid (kZ w U/\PartOk U (sZ A 32 32) B.toList):=by
   refine⟨J.trans (E.bel.mono J.size),⟨_,A,0,32,B,by rw[i],rfl,by rw[i];exact Xx _,by rw[i];decide,X0 ⟨rfl,λj D=>?_⟩⟩⟩;have a:=E.range j (encB B[j]!) (by unfold cb;rw[Ys,getElem!_pos B j D,<-Array.getElem_toList D,XJ (by rw[XP];exact D)];rfl);exact⟨a,(E.there j (by rw[lZ];exact D)).2⟩
  clear E C J;go_wp2
  go_ret2
  exact⟨.tuple #[sZ A 32 32,iZ 0],rfl,L.1,sZ A 32 32,rfl,⟨some (aZ A),32,32,rfl⟩,L.2⟩
 ·have u:ksB N S k n d.data.toList=#[]:=by unfold ksB;rw[yET b]
  rw[u];have l:¬(kdE k n:Int)=0:=by
   unfold kdE;by_cases a:k.size=32
   ·rw[yES a,yET (λh=>b ⟨a,h⟩)];decide
   ·rw[yET a];decide
  have i:((kdE k n:Int) == 0)=false:=by simpa using l
  have H:=Hid.mk2 b;clear u b;generalize kdE k n=m at hd l i⊢;go_enter func39,ntmps39;go_wp2_with fail
  refine hd.mono ?_;rintro e o ⟨v2,rfl,g,f⟩;obtain rfl:v2=.tuple #[.slice none 0 0,iZ m]:=by
   rcases f with⟨-,f⟩|⟨f,-⟩
   ·exact f
   ·exact absurd f H.out
  have s:Hid (kZ w o):=g;clear g f hd;go_wp2
  go_ret2
  exact⟨_,rfl,s.out,_,rfl,⟨_,_,_,rfl⟩,Ij o⟩
end
section
open SPA
variable {P:Nat}[NeZero P]{N:Nat}
theorem TD:(prog.underlying 9).map (·.isRow)=some false:=kR
theorem J5{W:Xs}{v:Xu}{b:Bs}(h:PartOk W v b.toList)(j:b.size=32):Arg W v b:=by
 obtain⟨a,d,g,cap,f,rfl,e,l,-,k⟩:=h;obtain rfl:f=b:=yDx.1 e;refine⟨a,_,cap,rfl,rfl,λi=>?_⟩;rcases k with k|⟨rfl,c⟩
 ·omega
 ·exact⟨d,g,rfl,by omega,Holds.lt c (by omega),c⟩
theorem Qe(i:Nat)(w:Xs):(Yl 61 (.agg (sdC N i).toArray)).run prog w=.ok (jZ w.heap.size) (w.alloc (.cells (sdC N i).toArray 61)):=kR
theorem Ve(n:Nat)(w:Xs):(Yr 93 1 #[(0,.int .u32 n)]).run prog w=.ok (sZ w.heap.size 1 1) (w.alloc (.cells [YQ .u32 n].toArray 38)):=kR
def blN(N:Nat)(k:Bs)(i n:Nat):Nat:=kSc N (yY (λ_=>n) k 1 (sdL i).data.toList)
def psB(k:Bs)(i n:Nat):Bs:=yY (λ_=>n) k 1 (sdP i).data.toList
theorem QU:∀i,(sdL i).size<=65536
 | 0=>Yy rfl
 | _+1=>Yy rfl
theorem QT:∀i,(sdP i).size<=65536
 | 0=>Yy rfl
 | _+1=>Yy rfl
theorem Kk{W:Xs}{k n:Nat}(c:n<4294967296)(b:Row W k [.int .u32 n]):Dw W (some (aZ k)) 1 (λ_=>n):=⟨λ_ _=>c,λ_=>⟨k,0,rfl,b.1,λj d=>by
 obtain rfl:j=0:=by omega
 exact b.2.1 0 _ rfl⟩⟩
theorem Ue(i n:Nat)(A:n<4294967296)(o:Bs)(l:o.size=32)(s:Option YW)(sc:Nat)(w:Xs)(x:PartOk w (.slice s 32 sc) o.toList):XH prog 21 #[.agg (sdC N i).toArray,.slice s 32 sc,.int .u32 n] w (rZ w λe w'=>∃r,e=sZ r 32 32/\w.heap.size<=r/\Holds encB w' r 0 (psB o i n)):=by
 refine hG w.heap.size λC g=>?_
 refine hG (w.alloc (.cells (sdC N i).toArray 61)) λt f=>?_
 have m:=mk1 ((Mp.start w).new g f);have B:=Qe (N:=N) i w;rw[g.out,f.out]at B;refine hG t.heap.size λq k=>?_
 refine hG (t.alloc (.cells [YQ .u32 n].toArray 38)) λa j=>?_
 have c:=mk1 (m.out.new k j);have z:=Ve n t;rw[k.out,j.out]at z;have y:=mk1 (Dx s 32 sc o (sdP i) (QT i) (some (aZ q)) 1 1 (λ_=>n) a (by omega) (x.below c.out.bl) l.symm (Kk A (c.out.at_ 1)));obtain⟨cs,b⟩:=hE (sdC N i);have D:cs[1]? = some (.string (sdP i)):=by rw[<-b.out];rfl
 rw[b.out]at B m⊢;clear x b;go_enter func21,ntmps21;refine Xy ?_;refine PW.begin ?_;refine PW.ns B ?_;refine PW.va (.slice none 0 0) ?_;refine PW.dn ?_;refine Xy ?_;refine PW.begin ?_;refine PW.mv ?_;refine PW.va (oZ C 1) ?_;refine PW.ce ((m.out.at_ 0).2.1 1 _ D) TD ?_;refine PW.mv ?_;refine PW.ns z ?_;refine PW.ca y.out ?_;rintro e E ⟨d,⟨h,-⟩|⟨-,r,rfl,v,u⟩⟩
 ·exact absurd ⟨l,by omega⟩ h
 simp only[XK,Xt,Xv,Xw];have p:=mk3 (c.out.bl.trans (d.mono c.out.bl.size)) (XB c.out.bl.size v) u;clear d v u y m c;refine PW.mv ?_;refine PW.va (sZ r 32 32) ?_;refine PW.va (iZ 0) ?_;refine PW.va (sZ r 32 32) ?_;refine PW.va (iZ 0) ?_;refine PW.dn ?_;go_wp2;go_ret;exact⟨_,rfl,p.out.1,r,rfl,p.out.2.1,p.out.2.2⟩
theorem B6(O:Ord N)(k:Bs)(i n:Nat):blN N k i n<N:=KL O _
theorem Qf(O:Ord N)(i n:Nat)(hn:n<4294967296)(b:Bs)(d:b.size=32)(H:Option YW)(sc:Nat)(w:Xs)(T:PartOk w (.slice H 32 sc) b.toList):XH prog 18 #[.agg (sdC N i).toArray,.slice H 32 sc,.int .u32 n] w (rZ w λe w'=>e=nv (blN N b i n)):=by
 refine hG w.heap.size λk3 o=>?_
 refine hG (w.alloc (.cells (sdC N i).toArray 61)) λY j=>?_
 have D:=mk1 ((Mp.start w).new o j);have B:=Qe (N:=N) i w;rw[o.out,j.out]at B;refine hG Y.heap.size λX p=>?_
 refine hG (Y.alloc (.cells (RG.z 4).toArray 44)) λE s=>?_
 have A:=mk1 (D.out.new p s);refine hG E.heap.size λG c=>?_
 refine hG (E.alloc (.cells [YQ .u32 n].toArray 38)) λw3 r=>?_
 have x:=mk1 (A.out.new c r);have V:=Ve n E;rw[c.out,r.out]at V;have C:=I4 O H 32 sc b (sdL i) (QU i) (some (aZ G)) 1 1 (λ_=>n) w3 (by omega) (T.below x.out.bl) d.symm (Kk hn (x.out.at_ 2));have K:kdE b 1=0:=by unfold kdE;rw[yES d];rfl
 have S:ksB N (λ_=>n) b 1 (sdL i).data.toList=bx (blN N b i n):=by unfold ksB;rw[yES ⟨d,by omega⟩];rfl
 rw[K,S]at C;have F:=B6 O b i n;generalize blN N b i n=m at F C⊢;have I:=λv W (h:Arg W v (bx m))=>wE O v (bx m) W h
 rw[kT O F]at I;obtain⟨vm,k⟩:=hE (nv m);have y:Hid (∀v W,Arg W v (bx m)->XH prog 11 #[v] W (rZ W λe w'=>e=.tuple #[vm,.bool true])):=by rw[<-k.out];exact I
 obtain⟨cs,f⟩:=hE (sdC N i);have h1:cs[0]? = some (.string (sdL i)):=by rw[<-f.out];rfl
 rw[f.out]at B D A x⊢;have t:=mk1 C;clear T f C I F K S;go_enter func18,ntmps18;refine Xy ?_;refine PW.begin ?_;refine PW.ns B ?_;refine PW.al p s ?_;refine PW.dn ?_;refine Xy ?_;refine PW.begin ?_;refine PW.mv ?_;refine PW.va (jZ k3) ?_;refine PW.ce ((A.out.at_ 0).2.1 0 _ h1) TD ?_;refine PW.mv ?_;refine PW.ns V ?_;refine PW.ca t.out ?_;rintro e w4 ⟨q,v,rfl,⟨P,Q,U,rfl⟩,hp⟩;simp only[XK,Xt,Xv,Xw];have L:=mk1 (x.out.grow q);have Z:=J5 hp (cU _);clear q hp t D A x;refine PW.mv ?_;refine PW.va (.slice P Q U) ?_;refine PW.va (iZ 0) ?_;refine PW.va (.slice P Q U) ?_;refine PW.va (iZ 0) ?_;refine PW.dn ?_;refine Xy ?_;refine PW.begin ?_;refine PW.mv ?_;refine PW.gi (y.out _ w4 Z) λM g=>?_
 have K5:=mk1 (L.out.grow g);clear L Z y g;refine PW.mv ?_;refine PW.va vm ?_;refine PW.va (.bool true) ?_;refine hG M.heap.size λk9 a=>?_
 refine hG (M.alloc (.cells (RG.z 4).toArray 44)) λw6 u=>?_
 refine hG (w6.setCells k9 0 (wn m)) λw7 z=>?_
 have K6:=mk1 (K5.out.new a u);have J:=mk1 (K6.out.put 3 z);refine PW.al a u ?_;refine PW.st z k (K6.out.th 3) i40 (aI m) ?_;refine PW.va (.bool true) ?_;refine PW.dn ?_;refine Xy ?_;refine PW.begin ?_;refine hG (w7.setCells X 0 (wn m)) λw8 l=>?_
 have R:=mk1 (J.out.put 1 l);refine PW.ro (J.out.at_ 3).2.1 k u40 i40 ?_;refine PW.st l k (J.out.th 1) i40 (aI m) ?_;refine PW.dn ?_;refine wp_ret ?_;refine XE (aF 6 44 rfl (show Row w8 X (wn m) from R.out.at_ 1) rfl u40 i40) rfl ?_;exact⟨_,rfl,R.out.bl,rfl⟩
end
section
open SPA
variable {P:Nat}[NeZero P]{N:Nat}[NeZero N]
omit [NeZero N] in
theorem SB(O:Ord N)(a b:Fin N)(W:Xs):XH prog 71 #[nv a.val,nv b.val] W (rZ W λe w'=>e=nv (a-b).val):=by
 rw[Kv];exact D3 O a.val b.val a.isLt b.isLt W
def rgD(n:Nat)(y z:Fin N):Fin N:=(z-z*z)*Md.pr (λ_=>1) (pwF y) n-z*z*z*ofF N (2^n-1)
theorem Au(a:Bs)(f:a.size=33)(n:Nat)(w:Xs):XH prog 32 #[pvl a,nv n] w (rZ w λe w'=>Sm w.heap.size w' e [(n,a)]):=
 (lJ a f n w).mono λ_ _ ⟨_,b,d,_,c,k,hR⟩=>⟨_,b,d,by rw[c];exact Sm.one hR k rfl⟩
theorem Nn(C:Fld P)(O:Ord N)(k:∀r:EC.Pt P,On r->mul N r=none)(hP:IsP N)(hN:18446744073709551616<=N){n t:Nat}(hw:Wd n t)(p:Rp)(ok:p.Ok)(V:Bs)(Vp P1 P2:OnP P)(hV:V=wP Vp)(h1:p.c=wP P1)(h2:p.d=wP P2)(tau tt x y z:Fin N)(hu:p.u=tau.val)(ht:p.t=tt.val)(w:Xs)(X Y:Bs)(hX:X=wP ((aD C k).cm (hPV C) (gPG C) (tt-rgD n y z) tau))(hY:Y=wP ((aD C k).ad ((aD C k).ad ((aD C k).ac (z*z) Vp) ((aD C k).ac x P1)) ((aD C k).ac (x*x) P2))):
 XH prog 162 #[.agg p.l.toArray,pvl V,iZ n,nv x.val,nv y.val,nv z.val] w (rZ w λe w'=>e=.bool (decide (X=Y))):=by
 have hz:n<=64:=by rw[hw.1];exact XB (Y4 dC hw.2.2) dC
 have sV:V.size=33:=by rw[hV];exact aL _
 obtain⟨vp,U⟩:=hE (X6 p.l.toArray);obtain⟨vV,F⟩:=hE (pvl V);obtain⟨vx,l⟩:=hE (nv x.val);obtain⟨vy,E⟩:=hE (nv y.val);obtain⟨vz,d⟩:=hE (nv z.val);obtain⟨vq,f⟩:=hE (nv (z*z).val);obtain⟨k6,k4⟩:=hE (w.heap.size);obtain⟨w1,hl⟩:=hE (w.alloc (.cells p.l.toArray 153));obtain⟨k7,h4⟩:=hE (w1.heap.size);obtain⟨w2,k8⟩:=hE (w1.alloc (.cells (aA V).toArray 51));obtain⟨k9,h9⟩:=hE (w2.heap.size);obtain⟨w3,h0⟩:=hE (w2.alloc (.cells (wn x.val).toArray 44));obtain⟨km,K⟩:=hE (w3.heap.size);obtain⟨w4,kc⟩:=hE (w3.alloc (.cells (wn y.val).toArray 44));obtain⟨kl,I⟩:=hE (w4.heap.size);obtain⟨w5,hm⟩:=hE (w4.alloc (.cells (wn z.val).toArray 44));have K5:=mk1 (((((Mp.start w).new k4 hl).new h4 k8).new h9 h0).new K kc |>.new I hm);have B1:Hid ((Yl 153 vp).run prog w=.ok (jZ k6) w1):=by rw[<-U.out,<-hl.out,<-k4.out];exact Mi ok w
 have B2:Hid ((Yl 51 vV).run prog w1=.ok (jZ k7) w2):=by rw[<-F.out,<-k8.out,<-h4.out];exact sM sV w1
 have B3:Hid ((Yl 44 vx).run prog w2=.ok (jZ k9) w3):=by rw[<-l.out,<-h0.out,<-h9.out];exact boxS _ w2
 have B4:Hid ((Yl 44 vy).run prog w3=.ok (jZ km) w4):=by rw[<-E.out,<-kc.out,<-K.out];exact boxS _ w3
 have B5:Hid ((Yl 44 vz).run prog w4=.ok (jZ kl) w5):=by rw[<-d.out,<-hm.out,<-I.out];exact boxS _ w4
 rw[U.out,F.out,l.out,E.out,d.out];go_enter func162,ntmps162;refine Xy ?_;refine PW.begin ?_;refine PW.ns B1.out ?_;refine PW.ns B2.out ?_;refine PW.ns B3.out ?_;refine PW.ns B4.out ?_;refine PW.ns B5.out ?_;refine PW.va (.bool false) ?_;refine PW.dn ?_;clear B1 B2 B3 B4 B5;have HQ:=mk1 (yP O z z w5);rw[d.out,f.out]at HQ;refine Xy ?_;refine PW.begin ?_;refine PW.ro (K5.at_ 4).2.1 d u40 i40 ?_;refine PW.ro (K5.at_ 4).2.1 d u40 i40 ?_;refine PW.gi HQ.out λw6 m=>?_
 have K6:=mk1 (K5.grow m);obtain⟨kj,H⟩:=hE (w6.heap.size);obtain⟨w7,kd⟩:=hE (w6.alloc (.cells (RG.z 4).toArray 44));obtain⟨w8,hn⟩:=hE (w7.setCells kj 0 (wn (z*z).val));have K7:=mk1 (K6.new H kd);have K8:=mk1 (K7.put 5 hn);refine PW.al H kd ?_;refine PW.st hn f (K7.th 5) i40 (aI _) ?_;clear K5 K6 K7 HQ m;refine PW.dn ?_;obtain⟨v1,hr⟩:=hE (nv 1);have HO:=mk1 (rQ 1 dC w8);rw[hr.out]at HO;refine Xy ?_;refine PW.begin ?_;refine PW.gi HO.out λw9 k1=>?_
 have K9:=mk1 (K8.grow k1);obtain⟨kb,k5⟩:=hE (w9.heap.size);obtain⟨wA,hp⟩:=hE (w9.alloc (.cells (wn 1).toArray 44));have ha:Hid ((Yr 143 1 #[(0,v1)]).run prog w9=.ok (sZ kb 1 1) wA):=by rw[<-hr.out,<-hp.out,<-k5.out];exact Vd 1 w9
 have FA:=aM k5 hp;refine PW.ns ha.out ?_;refine PW.mv ?_;refine PW.ca (JU 1 kb n oM wA FA.2) ?_;rintro ov wB ⟨ka,D⟩;simp only[XK,Xt,Xv,Xw];replace D:=D.fin (λ_=>(1:Fin N)) (λi _=>(XX hP.1).symm);have A:=mk1 ((K9.grow FA.1).gets ka (pqS ov n λi=>((λ_=>(1:Fin N)) i).val) D);clear K8 K9 HO k1 D ka FA ha;refine PW.va ov ?_;refine PW.dn ?_;obtain⟨a1,ki⟩:=hE (nv (z-z*z).val);obtain⟨a2,hk⟩:=hE (nv (Md.pr (λ_=>1) (pwF y) n).val);obtain⟨a3,kf⟩:=hE (nv ((z-z*z)*Md.pr (λ_=>1) (pwF y) n).val);obtain⟨a4,kn⟩:=hE (nv (z*z*z).val);obtain⟨a5,hi⟩:=hE (nv (ofF N (2^n-1)).val);obtain⟨a6,kh⟩:=hE (nv (z*z*z*ofF N (2^n-1)).val);obtain⟨a7,B⟩:=hE (nv (rgD n y z).val);have R:=mk5 (λW=>SB O z (z*z) W) (λW=>yP O (z-z*z) (Md.pr (λ_=>1) (pwF y) n) W) (λW=>yP O (z*z) z W) (λW=>yP O (z*z*z) (ofF N (2^n-1)) W) (λW=>SB O ((z-z*z)*Md.pr (λ_=>1) (pwF y) n) (z*z*z*ofF N (2^n-1)) W);rw[show(z-z*z)*Md.pr (λ_=>1) (pwF y) n-z*z*z*ofF N (2^n-1)=rgD n y z from rfl,ki.out,hk.out,kf.out,kn.out,hi.out,kh.out,B.out,d.out,f.out]at R;have l2:2^n-1<18446744073709551616:=by
  have:=Y4 (n:=2) dC hz;have:=yAM (n:=n) (show 0<2 by decide);omega
 obtain⟨gi,k2⟩:=hE (2^n-1);have hq:Hid (∀W,XH prog 15 #[uZ gi] W (rZ W λe w'=>e=a5)):=λW=>by
  rw[<-hi.out,<-k2.out,show(ofF N (2^n-1)).val=2^n-1 from XX oM];exact rQ _ l2 W
 have k3:Hid (∀W,XH prog 41 #[iZ n] W (rZ W λe w'=>e=uZ gi)):=λW=>by
  rw[<-k2.out];exact GH hw W
 obtain⟨Q,hQ⟩:=A.out.q;refine Xy ?_;refine(gwL [pE vz,pE vq,pE a1,pE ov,pE vy,pE (iZ n),RG.pS Q n (λi=>(pwF y i).val),pE a2,pE a3,pE vq,pE vz,pE a4,pE (iZ n),pE (uZ gi),pE a5,pE a6,pE a7,RG.pN wB.heap.size (RG.z 4)] (λW=>kZ wB W) (λW W' hb h=>h.trans (hb.mono h.size))).tail2 18 kR kR kR ⟨
  gLo (cs:=wn z.val) 11 (λW c=>((A.grow c).at_ 4).2.1) u40 i40 (hR:=λ_=>d.out),
  gLo (cs:=wn (z*z).val) 13 (λW c=>((A.grow c).at_ 5).2.1) u40 i40 (hR:=λ_=>f.out),
  gC2 0 24 1 25 R.1,
  gO 14 ov,
  gLo (cs:=wn y.val) 10 (λW c=>((A.grow c).at_ 3).2.1) u40 i40 (hR:=λ_=>E.out),
  gO 2 (iZ n),
  eF 4 28 5 29 83 (λx y=>#[x,y]) (λa u W j o c=>by
   obtain rfl:a=vy:=j;obtain rfl:u=iZ n:=o;rw[<-E.out];exact(PC O y.val y.isLt n oM W).mono λe W' ⟨v,h1,h2,G⟩=>⟨v,h1,h2,(G.mono λg q=>(A.grow c).nkq hQ g q).fin (pwF y) λi _=>mP hP.1 y i⟩),
  eF 3 27 6 30 87 (λx y=>#[x,y]) (λa u W j o c=>by
   obtain rfl:a=ov:=j;have h:=BP O n oM (λi=>((λ_=>(1:Fin N)) i).val) (λi=>(pwF y i).val) (λi _=>(1:Fin N).isLt) (λi _=>(pwF y i).isLt) a u W ((A.grow c).vW hQ 0) o;rw[kM,hk.out]at h;exact h),
  gC2 2 26 7 31 R.2.1,
  gLo (cs:=wn (z*z).val) 13 (λW c=>((A.grow c).at_ 5).2.1) u40 i40 (hR:=λ_=>f.out),
  gLo (cs:=wn z.val) 11 (λW c=>((A.grow c).at_ 4).2.1) u40 i40 (hR:=λ_=>d.out),
  gC2 9 33 10 34 R.2.2.1,
  gO 2 (iZ n),
  oG 12 36 41 (λx=>#[x]) (λa W j c=>by
   obtain rfl:a=iZ n:=j;exact k3 W),
  oG 13 37 15 (λx=>#[x]) (λa W j c=>by
   obtain rfl:a=uZ gi:=j;exact hq W),
  gC2 11 35 14 38 R.2.2.2.1,
  gC2 8 32 15 39 R.2.2.2.2,
  tY (RG.z 4) 44 (λW W' h c=>⟨_,rfl,c.size,h⟩),yEU⟩ ⟨rfl,rfl,rfl,Xx _,λ_ _=>rfl⟩ ?_
 intro Z wC hR c;have T:Z 16=a7:=hR 16 dC;obtain⟨kk,hc,hj,k0⟩:=hR 17 dC;dsimp only[bY,YH,ZQ,ZR];simp only[XK,Xt,Xv,Xw];rw[T,hc];have KC:=mk1 (A.add c k0 hj);obtain⟨wD,hy⟩:=hE (wC.setCells kk 0 (wn (rgD n y z).val));have KD:=mk1 (KC.put 6 hy);refine PW.st hy B (KC.th 6) i40 (aI _) ?_;clear A KC hR c k0 hj T hc R hq k3 hQ;refine PW.dn ?_;have tV:Tl N [((z*z).val,V)] ((aD C k).ac (z*z) Vp):=by rw[hV];exact Tl.pt C k (z*z) Vp
 have t1:Tl N [(x.val,p.c)] ((aD C k).ac x P1):=by rw[h1];exact Tl.pt C k x P1
 have t2:Tl N [((x*x).val,p.d)] ((aD C k).ac (x*x) P2):=by rw[h2];exact Tl.pt C k (x*x) P2
 have t3:=tV.app C k t1;have t4:=t3.app C k t2;obtain⟨vc,hs⟩:=hE (pvl p.c);obtain⟨vd,he⟩:=hE (pvl p.d);obtain⟨kr,h6⟩:=hE (nv (x*x).val);obtain⟨vY,h7⟩:=hE (pvl Y);have G:=mk7 (λW=>Au V sV (z*z).val W) (λW=>Au p.c ok.c x.val W) (λW=>Au p.d ok.d (x*x).val W) (λW=>yP O x x W)
  (λ(W:Xs) (s u:Xu) (a:Sm 0 W s [((z*z).val,V)]) (b:Sm 0 W u [(x.val,p.c)])=>cA 0 s u _ _ (by simp) (by simp) (by simp) tV.ok.sz t1.ok.sz W (X0 a) (X0 b))
  (λ(W:Xs) (s u:Xu) (a:Sm 0 W s ([((z*z).val,V)]++[(x.val,p.c)])) (b:Sm 0 W u [((x*x).val,p.d)])=>cA 0 s u _ _ (by simp) (by simp) (by simp) t3.ok.sz t2.ok.sz W (X0 a) (X0 b))
  (λ(W:Xs) (s:Xu) (a:Sm 0 W s ([((z*z).val,V)]++[(x.val,p.c)]++[((x*x).val,p.d)]))=>(by rw[hY];exact t4.point C O k (by simp) (by simp) a:XH prog 33 #[s] W (rZ W λe w'=>e=pvl Y)))
 rw[F.out,hs.out,he.out,l.out,f.out,h6.out,h7.out]at G;have ip:∀ {b:Bs},b.size=33->(prog.info? 51).map (·.size)=some (aA b).length:=λh=>by rw[aB h];exact iCP
 refine Xy ?_;refine AW.beg 15 15 (Iv.mp w _ _ false) KD.out.drew ?_;refine AW.ro 0 (λW h=>(h.at_ 1).2.1) F uCP (ip sV) ?_;refine AW.ro 1 (λW h=>(h.at_ 5).2.1) f u40 i40 ?_;refine AW.va 3 (oZ k6 66) ?_;refine AW.ro 4 (λW h=>(Rp.at7 ok (h.at_ 0).2.1).2.2.1) hs uCP (ip ok.c) ?_;refine AW.ro 5 (λW h=>(h.at_ 2).2.1) l u40 i40 ?_;refine AW.va 8 (oZ k6 99) ?_;refine AW.ro 9 (λW h=>(Rp.at7 ok (h.at_ 0).2.1).2.2.2.1) he uCP (ip ok.d) ?_;refine AW.ro 10 (λW h=>(h.at_ 2).2.1) l u40 i40 ?_;refine AW.ro 11 (λW h=>(h.at_ 2).2.1) l u40 i40 ?_;refine AW.ca 2 (λ_=>G.1 _) (λe w' h=>h.1) ?_;rintro s1 x1 ⟨q,q1⟩;simp only[XK,Xt,Xv,Xw];refine AW.ca 6 (λ_=>G.2.1 _) (λe w' h=>h.1) ?_;rintro s2 x2 ⟨j,q2⟩;simp only[XK,Xt,Xv,Xw];refine AW.ca 7 (λ_=>G.2.2.2.2.1 _ _ _ (q1.q.keep (Kq.of_below j)).sm q2.q.sm) (λe w' h=>h.1) ?_;rintro s3 x3 ⟨o,q3⟩;simp only[XK,Xt,Xv,Xw];refine AW.gi 12 (λ_=>G.2.2.2.1 _) λx4 S=>?_
 refine AW.ca 13 (λ_=>G.2.2.1 _) (λe w' h=>h.1) ?_;rintro s5 x5 ⟨M,q5⟩;simp only[XK,Xt,Xv,Xw];refine AW.ca 14 (λ_=>G.2.2.2.2.2.1 _ _ _ ((q3.q.keep (Kq.of_below S)).keep (Kq.of_below M)).sm q5.q.sm) (λe w' h=>h.1) ?_;rintro s6 x6 ⟨m,q6⟩;simp only[XK,Xt,Xv,Xw];have KE:=mk1 (((((KD.drew.grow q).grow j).grow o).grow S).grow M |>.gets m (pqM s6 _) q6.q);clear q j o S M m q1 q2 q3 q5 q6 KD;refine AW.nx 15 s6 ?_;refine AW.dn λ_=>?_
 obtain⟨ko,L⟩:=hE (nv tt.val);obtain⟨kp,J⟩:=hE (nv tau.val);obtain⟨vm,ke⟩:=hE (nv (tt-rgD n y z).val);obtain⟨vX,h5⟩:=hE (pvl X);have HM:=mk2 (λW=>SB O tt (rgD n y z) W) (λW=>mB (P:=P) C O (tt-rgD n y z).isLt tau.isLt W);rw[zA C k (tt-rgD n y z) tau,show wP ((aD C k).cm (hPV C) (gPG C) (tt-rgD n y z) tau)=X from hX.symm,L.out,J.out,ke.out,h5.out,B.out]at HM;have sX:X.size=33:=by rw[hX];exact aL _
 have sY:Y.size=33:=by rw[hY];exact aL _
 have h8:Hid (∀W:Xs,(eqGuard .eql 51 (.tmp 62) (.tmp 64) vX vY >>= λ_=>binOp .eql 51 vX vY).run prog W=.ok (.bool (decide (X=Y))) W):=λW=>by
  rw[<-h5.out,<-h7.out,XT,show(eqGuard .eql 51 (.tmp 62) (.tmp 64) (pvl X) (pvl Y)).run prog W=.ok () W by kernel_rfl];exact LG sX sY W
 refine Xy ?_;refine AW.beg 10 10 (Iv.mp w _ _ false) KE.out.drew ?_;refine AW.va 0 (oZ k6 140) ?_;refine AW.ro 1 (cs:=wn tt.val) (λW h=>by rw[<-ht];exact(Rp.at7 ok (h.at_ 0).2.1).2.2.2.2.2.2) L u40 i40 ?_;refine AW.ro 2 (λW h=>(h.at_ 6).2.1) B u40 i40 ?_;refine AW.va 4 (oZ k6 132) ?_;refine AW.ro 5 (cs:=wn tau.val) (λW h=>by rw[<-hu];exact(Rp.at7 ok (h.at_ 0).2.1).2.2.2.2.1) J u40 i40 ?_;refine AW.mv 7 ?_;refine AW.gi 3 (λ_=>HM.1 _) λx1 q=>?_
 refine AW.gi 6 (λ_=>HM.2 _) λx2 j=>?_
 refine AW.gi 8 (λh=>G.2.2.2.2.2.2 _ _ (SmQ.sm (h.get 1))) λx3 o=>?_
 have KF:=mk1 (((KE.drew.grow q).grow j).grow o);refine AW.ns 9 (h8 x3) (XM _ _) ?_;refine AW.nx 10 (.bool (decide (X=Y))) ?_;refine AW.dn λ_=>?_
 clear q j o KE G HM h8;obtain⟨bb,kg⟩:=hE (decide (X=Y));rw[kg.out];go_wp2;go_ret;exact⟨_,rfl,KF.bl,rfl⟩
def rgS(y z:Fin N)(i:Nat):Fin N:=z*pwF y i+z*z*pwF (ofF N 2) i
theorem NN(k:IsP N)(b:2<N)(y z:Fin N)(i:Nat):sPl N (sTi N z.val (pwN N y.val i)) (sTi N (sTi N z.val z.val) (pwN N 2 i))=(rgS y z i).val:=by
 show _=(z*pwF y i+z*z*pwF (ofF N 2) i).val;rw[jP,eX,eX,eX,<-mP k.1,<-mP k.1,show(ofF N 2).val=2 from XX b]
theorem UN(C:Fld P)(O:Ord N)(k:∀r:EC.Pt P,On r->mul N r=none)(hP:IsP N)(hN:18446744073709551616<=N){n:Nat}(hq:0<n)(hw:n<=64)(p:Rp)(ok:p.Ok)(PA PS:OnP P)(hA:p.a=wP PA)(hS:p.s=wP PS)(mu tt x y z:Fin N)(hm:p.m=mu.val)(ht:p.t=tt.val)(G H:Nat->List (Nat × Bs))(U:List (Nat × Bs))(g h:Nat->OnP P)(u:OnP P)(hG:Gd N n 1 G g)(hH:Gd N n 1 H h)(hU:Tl N U u)(hp:U.length=1):
 ∃l,Tl N l ((aD C k).ad ((aD C k).ad ((aD C k).ad ((aD C k).ad PA ((aD C k).ac x PS)) ((aD C k).ac (-1) ((aD C k).ac mu (gPG C)))) ((aD C k).ad ((aD C k).dt (λ_=>-z) g n) ((aD C k).dt (rgS y z) h n))) ((aD C k).ac tt u))/\(0<l.length/\l.length<=150) /\
  ∀(Q:Nat->Prop) (V:Xu) (w:Xs),GRq Q w V n G H U->XH prog 164 #[.agg p.l.toArray,V,iZ n,nv x.val,nv y.val,nv z.val] w (rZ w λe w'=>Sm w.heap.size w' e l):=by
 obtain⟨Gb,S⟩:=hE (wr (gG P));have sG:Gb.size=33:=by rw[<-S.out];exact aL _
 have tA:Tl N [(1,p.a)] PA:=by rw[hA];exact Tl.one C hP.1 PA
 have tS:Tl N [(x.val,p.s)] ((aD C k).ac x PS):=by rw[hS];exact Tl.pt C k x PS
 have tG:Tl N [(mu.val,Gb)] ((aD C k).ac mu (gPG C)):=by rw[<-S.out];exact Tl.pt C k mu (gPG C)
 have t1:=tA.app C k tS;have tM:=tG.tm C k (-1);rw[Ut hP.1]at tM;have t2:=t1.app C k tM;have tL:=(hG.cmb C k (λ_=>-z)).1.app C k (hH.cmb C k (rgS y z)).1;have lL:(dF N (λ_=>(-z).val) G n++dF N (λi=>(rgS y z i).val) H n).length=n+n:=by rw[XC,(hG.cmb C k (λ_=>-z)).2,(hH.cmb C k (rgS y z)).2,ZU]
 have tU:=hU.tm C k tt;have lU:(U.map (tmT N tt.val)).length=1:=by rw[XV,hp]
 have t3:=t2.app C k tL;have t4:=t3.app C k tU;have ha:=tZ hq (by decide:0<1) oM hG hH hU oM oM;refine⟨_,t4,⟨by simp,by simp only[XC,XV,lL,lU,Yq,Zr]at *;omega⟩,λQ V w h0=>?_⟩;obtain⟨lb,E⟩:=hE (dF N (λ_=>(-z).val) G n++dF N (λi=>(rgS y z i).val) H n);obtain⟨lu,F⟩:=hE (U.map (tmT N tt.val));obtain⟨R,o⟩:=hE ([(1,p.a)]++[(x.val,p.s)]++[(mu.val,Gb)].map (tmT N (sMi N 0 1)));rw[o.out,E.out,F.out];have n2:R.length=3:=by rw[<-o.out];rfl
 rw[E.out]at tL lL;rw[F.out]at tU lU;rw[o.out]at t2;have hb:=t2.app C k tL;have h2:2<N:=oM;obtain⟨vp,Z⟩:=hE (X6 p.l.toArray);obtain⟨vx,A⟩:=hE (nv x.val);obtain⟨vy,B⟩:=hE (nv y.val);obtain⟨vz,D⟩:=hE (nv z.val);obtain⟨vm,X⟩:=hE (nv mu.val);obtain⟨vt,h7⟩:=hE (nv tt.val);obtain⟨vG,hn⟩:=hE (pvl Gb);obtain⟨va,he⟩:=hE (pvl p.a);obtain⟨vs,Y⟩:=hE (pvl p.s);have K:=mk8 (λW=>Bw p.a ok.a W) (λW=>Au p.s ok.s x.val W) (λW=>Au Gb sG mu.val W) (λW=>P6 (P:=P) C W)
  (λ(W:Xs) (s u:Xu) (a:Sm 0 W s [(1,p.a)]) (b:Sm 0 W u [(x.val,p.s)])=>cA 0 s u _ _ (by simp) (by simp) (by simp) tA.ok.sz tS.ok.sz W (X0 a) (X0 b))
  (λ(W:Xs) (s u:Xu) (a:Sm 0 W s ([(1,p.a)]++[(x.val,p.s)])) (b:Sm 0 W u [(mu.val,Gb)])=>xJ O 0 s u _ _ (by simp) (by simp) (by simp) t1.ok.sz tG.ok.sz tG.ok.lt W (Zh _) a b)
  (λ(W:Xs) (s u:Xu) (a:Sm 0 W s R) (b:Sm 0 W u lb)=>cA 0 s u R lb (by rw[XC];omega) oM oM t2.ok.sz tL.ok.sz W (X0 a) (X0 b))
  (λ(W:Xs) (s u:Xu) (a:Sm 0 W s (R++lb)) (b:Sm 0 W u lu)=>cA 0 s u (R++lb) lu (by simp only[XC];omega) (by rw[XC];omega) oM hb.ok.sz tU.ok.sz W (X0 a) (X0 b))
 rw[o.out,S.out,hn.out,he.out,Y.out,A.out,X.out]at K;have hr:Hid (∀(Q:Nat->Prop) (W:Xs) (v a b:Xu),GRq Q W v n G H U->SLq Q W a n (λ_=>(-z).val)->SLq Q W b n (λi=>(rgS y z i).val)->XH prog 78 #[v,a,b] W (rZ W λe w'=>Sm W.heap.size w' e lb)):=λQ W v a b g1 g2 g3=>by
  rw[<-E.out];exact yK O n 1 G H U ha _ _ (λi _=>(-z).isLt) (λi _=>(rgS y z i).isLt) v a b W g1 g2 g3
 have hl:Hid (∀(W:Xs) (v:Xu),Sm 0 W v U->XH prog 149 #[v,vt] W (rZ W λe w'=>Sm W.heap.size w' e lu)):=λW v a=>by
  rw[<-F.out,<-h7.out];exact eH O tt.isLt 0 v U oM hU.ok.szm hU.ok.lt W a
 have hk:=mk1 (λW=>FQ O h2 y.val z.val y.isLt z.isLt n oM W);rw[B.out,D.out]at hk;clear E F o tA tS tG t1 tM t2 tL tU t3 t4 hb ha;obtain⟨q1,q2,q3,rfl,-,-,-⟩:=h0.ex;obtain⟨k6,hc⟩:=hE (w.heap.size);obtain⟨w1,h8⟩:=hE (w.alloc (.cells p.l.toArray 153));obtain⟨k7,h5⟩:=hE (w1.heap.size);obtain⟨w2,hi⟩:=hE (w1.alloc (.cells [q1,q2,q3].toArray 150));obtain⟨k9,h6⟩:=hE (w2.heap.size);obtain⟨w3,h4⟩:=hE (w2.alloc (.cells (wn x.val).toArray 44));obtain⟨hu,M⟩:=hE (w3.heap.size);obtain⟨w4,hj⟩:=hE (w3.alloc (.cells (wn y.val).toArray 44));obtain⟨hs,L⟩:=hE (w4.heap.size);obtain⟨w5,h9⟩:=hE (w4.alloc (.cells (wn z.val).toArray 44));have K0:=(Mp.start w).has (pqG (.agg #[q1,q2,q3]) n G H U) (h0.mono2 λg _ _ e=>by cases e);have K5:=mk1 ((((K0.new hc h8).new h5 hi).new h6 h4).new M hj |>.new L h9);obtain⟨V,m⟩:=hE (X6 #[q1,q2,q3]);have B1:Hid ((Yl 153 vp).run prog w=.ok (jZ k6) w1):=by rw[<-Z.out,<-h8.out,<-hc.out];exact Mi ok w
 have B2:Hid ((Yl 150 V).run prog w1=.ok (jZ k7) w2):=by rw[<-m.out,<-hi.out,<-h5.out];exact Dl _ _ _ w1
 have B3:Hid ((Yl 44 vx).run prog w2=.ok (jZ k9) w3):=by rw[<-A.out,<-h4.out,<-h6.out];exact boxS _ w2
 have B4:Hid ((Yl 44 vy).run prog w3=.ok (jZ hu) w4):=by rw[<-B.out,<-hj.out,<-M.out];exact boxS _ w3
 have B5:Hid ((Yl 44 vz).run prog w4=.ok (jZ hs) w5):=by rw[<-D.out,<-h9.out,<-L.out];exact boxS _ w4
 rw[Z.out,m.out,A.out,B.out,D.out];rw[m.out]at K5;have ip:∀ {b:Bs},b.size=33->(prog.info? 51).map (·.size)=some (aA b).length:=λh=>by rw[aB h];exact iCP
 clear K0 h0;go_enter func164,ntmps164;refine Xy ?_;refine PW.begin ?_;refine PW.ns B1.out ?_;refine PW.ns B2.out ?_;refine PW.ns B3.out ?_;refine PW.ns B4.out ?_;refine PW.ns B5.out ?_;refine PW.va (.slice none 0 0) ?_;refine PW.dn ?_;clear B1 B2 B3 B4 B5;refine Xy ?_;refine AW.beg 13 13 (Iv.mp w _ _ false) K5.out.drew ?_;refine AW.va 0 (jZ k6) ?_;refine AW.ro 1 (λW h=>(Rp.at7 ok (h.at_ 0).2.1).1) he uCP (ip ok.a) ?_;refine AW.va 3 (oZ k6 33) ?_;refine AW.ro 4 (λW h=>(Rp.at7 ok (h.at_ 0).2.1).2.1) Y uCP (ip ok.s) ?_;refine AW.ro 5 (λW h=>(h.at_ 2).2.1) A u40 i40 ?_;refine AW.va 9 (oZ k6 136) ?_;refine AW.ro 10 (cs:=wn mu.val) (λW h=>by rw[<-hm];exact(Rp.at7 ok (h.at_ 0).2.1).2.2.2.2.2.1) X u40 i40 ?_;refine AW.ca 2 (λ_=>K.1 _) (λe w' h=>h.1) ?_;rintro s1 x1 ⟨t,e1⟩;simp only[XK,Xt,Xv,Xw];refine AW.ca 6 (λ_=>K.2.1 _) (λe w' h=>h.1) ?_;rintro s2 x2 ⟨f,e2⟩;simp only[XK,Xt,Xv,Xw];refine AW.ca 7 (λ_=>K.2.2.2.2.1 _ _ _ (e1.q.keep (Kq.of_below f)).sm e2.q.sm) (λe w' h=>h.1) ?_;rintro s3 x3 ⟨q,e3⟩;simp only[XK,Xt,Xv,Xw];refine AW.gi 8 (λ_=>K.2.2.2.1 _) λx4 d=>?_
 refine AW.ca 11 (λ_=>K.2.2.1 _) (λe w' h=>h.1) ?_;rintro s5 x5 ⟨j,e5⟩;simp only[XK,Xt,Xv,Xw];refine AW.ca 12 (λ_=>K.2.2.2.2.2.1 _ _ _ ((e3.q.keep (Kq.of_below d)).keep (Kq.of_below j)).sm e5.q.sm) (λe w' h=>h.1) ?_;rintro s6 x6 ⟨h1,e6⟩;simp only[XK,Xt,Xv,Xw];have KE:=mk1 (((((K5.drew.grow t).grow f).grow q).grow d).grow j |>.gets h1 (pqM s6 R) e6.q);clear t f q d j h1 e1 e2 e3 e5 e6 K5;refine AW.nx 13 s6 ?_;refine AW.dn λ_=>?_
 refine Xy ?_;refine AW.beg 16 16 (Iv.mp w _ _ false) KE.out.drew ?_;refine AW.mv 0 ?_;refine AW.ro 1 (λW h=>(h.at_ 1).2.1) m uGr iGr ?_;refine AW.ro 2 (λW h=>(h.at_ 3).2.1) B u40 i40 ?_;refine AW.ro 3 (λW h=>(h.at_ 4).2.1) D u40 i40 ?_;refine AW.mv 4 ?_;refine AW.va 10 (oZ k7 2) ?_;refine AW.ce 11 A9 (λW h=>(h.at_ 1).2.1 2 _ rfl) ?_;refine AW.va 12 (oZ k6 140) ?_;refine AW.ro 13 (cs:=wn tt.val) (λW h=>by rw[<-ht];exact(Rp.at7 ok (h.at_ 0).2.1).2.2.2.2.2.2) h7 u40 i40 ?_;refine AW.ca 5 (λ_=>hk _) (λe w' h=>h.1) ?_;rintro e y1 ⟨t,ls,rs,rfl,I,J⟩;simp only[XK,Xt,Xv,Xw];replace I:=I.fin (λ_=>-z) (λi _=>(Es z).symm);replace J:=J.fin (rgS y z) (λi _=>NN hP h2 y z i);have T:=mk1 ((KE.drew.gets t (pqS ls n λ_=>(-z).val) I).has (pqS rs n λi=>(rgS y z i).val) (J.mono λg hg=>KE.drew.nk g hg));clear I J t;refine AW.va 6 ls ?_;refine AW.va 7 rs ?_;refine AW.ca 8 (λ_=>hr _ _ _ _ _ (T.get 0) (T.get 2) (T.get 3)) (λe w' h=>h.1) ?_;rintro s2 y2 ⟨f,e2⟩;simp only[XK,Xt,Xv,Xw];refine AW.ca 9 (λ_=>K.2.2.2.2.2.2.1 _ _ _ (SmQ.sm ((T.grow f).get 1)) e2.q.sm) (λe w' h=>h.1) ?_;rintro s3 y3 ⟨q,e3⟩;simp only[XK,Xt,Xv,Xw];have KG:=mk1 ((T.grow f).grow q);refine AW.ca 14 (λ_=>hl _ _ (by
  have hh:GRq _ y3 V n G H U:=KG.get 0;rw[<-m.out]at hh;obtain⟨a,b,c,e,-,-,h3⟩:=hh.ex;cases e
  exact h3.sm)) (λe w' h=>h.1) ?_
 rintro s4 y4 ⟨d,e4⟩;simp only[XK,Xt,Xv,Xw];refine AW.ca 15 (λ_=>K.2.2.2.2.2.2.2 _ _ _ (e3.q.keep (Kq.of_below d)).sm e4.q.sm) (λe w' h=>h.1) ?_;rintro s5 y5 ⟨j,e5⟩;simp only[XK,Xt,Xv,Xw];have KH:=mk1 ((KG.grow d).grow j);have E5:Hid (Sm w.heap.size y5 s5 (R++(lb++lu))):=by
  rw[<-List.append_assoc];exact e5.q.mono λg hg=>XB (KG.grow d).bl.size hg
 clear f q d j e2 e3 e4 e5 T KG KE;refine AW.nx 16 s5 ?_;refine AW.dn λ_=>?_
 go_wp2;go_ret;exact⟨_,rfl,KH.bl,E5.out⟩
end
namespace RG
variable {P:YG}{ops:Array Yo}{Q:Exit->Act->Xs->Prop}{w:Xs}{a0:Act}{G:Gw}{S:Xs->Xs->Prop}{B1:Xs->Prop}{m k:Nat}{o:Yo}
def Gw.lk(G:Gw)(m:Nat)(S:Xs->Xs->Prop)(k:Xs->Prop):Flow:=⟨G.R,λb=>if b=0 then G.B else k,λi w w'=>(i=m/\S w w')\/kZ w w',λ_=>[],λb=>if b=0 then [] else [m]⟩
theorem Ey(h:bE P Q G.flow ops a0 k o):bE P Q (G.lk m S B1) ops a0 k o:=λa w K d e f c=>h a w K d e (λb _=>f 0 rfl) λv w' hE hR=>c v w' (X0 hE) hR
theorem WI(h:∀(a:Act) (w:Xs),PreG G ops a0 m o a w->B1 w->∃(k:List (Tmp × Xu)) (f:ZY) (args:Array Xu),AllE a k/\(cN (k.map (·.1)) o,(Yb (evo (evl k)) o).run P w)=(true,.ok (.enter f args) w)/\XH P f args w (Ret λe w'=>S w w'/\G.R m e w'))(l:okK ops m [m]=true:=by kernel_rfl):bE P Q (G.lk m S B1) ops a0 m o:=by
 intro a w K p r c q;obtain⟨k,f,args,t,b,g⟩:=h a w ⟨λj d i hd=>p j d i rfl hd,r,c 0 rfl⟩ (c 1 l);simp only[Ze.injEq]at b;unfold YV;rw[jE (evl k) (k.map (·.1)) b.1 t.ev,b.2,ZI];refine g.mono ?_;rintro e w' ⟨v,rfl,s,n⟩;exact q _ _ (X9 ⟨rfl,s⟩) n
theorem Gw.tailL{id:Nat}(G:Gw)(m:Nat)(S:Xs->Xs->Prop)(c:Xs->Prop)(n:Nat)(s:∀j v w w',j≠m->S w w'->G.R j v w->G.R j v w')(l:∀w w',S w w'->G.B w->G.B w')(q:∀w w',kZ w w'->c w->c w')(o:(decide (n<ops.size) && mZ ops n)=true)(x:P.follows .mixedOrders=true)(u:BQ ops a0.tmps.size=true)(h:iY P Q (G.lk m S c) ops a0 0 (ops.toList.take n))(k:G.B w.drew)(g:c w.drew)
 (a:∀(V:Nat->Xu) (w':Xs),(∀i,i<n->G.R i (V i) w')->G.B w'->wpList P ops Q (ops.toList.drop n) (bY V (ops.toList.take n) 0 a0) w'):(Zd id ops true).wp P Q a0 w:=by
 rw[XO,decide_eq_true_eq]at o;refine qU (G.lk m S c) n o.1 o.2 x ⟨u,uF h,λi j _ _ r _ _ v w w' hE hR=>?_,λi b _ f w w' hE k=>?_⟩ (λb=>?_) λV w' y z=>a V w' (λi d=>y i d rfl) (z 0 rfl)
 ·rcases hE with⟨d,p⟩|hE
  ·exact s j v w w' (λe=>r (d.trans e.symm)) p hR
  ·exact G.sR j v w w' hE hR
 ·unfold Gw.lk at f k⊢;dsimp only at f k⊢;by_cases t:b=0
  ·rw[yES t]at k⊢;rcases hE with⟨-,p⟩|hE
   ·exact l w w' p k
   ·exact G.sB w w' hE k
  ·rw[yET t]at k f⊢;rcases hE with⟨d,-⟩|hE
   ·rw[d]at f;simp at f
   ·exact q w w' hE k
 ·unfold Gw.lk;dsimp only;split
  ·exact k
  ·exact g
end RG
section
open SPA
def pX(b:Nat)(cs:List Xu):S1:=⟨λv w=>∃k,v=jZ k/\b<=k/\Row w k cs/\∀i x,w.cell? ⟨k,i,none⟩=some x->x∈cs,λ_ w w' c ⟨k,f,g,d,e⟩=>⟨k,f,g,d.below c,λi x hx=>e i x (by rw[<-XW (a:=⟨k,i,none⟩) (c.block k d.1)];exact hx)⟩⟩
theorem Oa{b r:Nat}{cs:List Xu}{v:Xu}{W W':Xs}(c:SP.Only r 0 32 W W')(l:r<b)(h:(pX b cs).p v W):(pX b cs).p v W':=by
 obtain⟨k,g,j,d,f⟩:=h;have e:=c.block k d.1 oM;exact⟨k,g,j,aS d c.size e,λi x hx=>f i x (by rw[<-XW (a:=⟨k,i,none⟩) e];exact hx)⟩
theorem UQ{P:YG}{c:Array Yo}{Q:Exit->Act->Xs->Prop}{a0:Act}{G:Gw}{k:Nat}{o:Yo}(b:Nat)(cs:List Xu)(T:Yd)(d:∀W,G.B W->b<=W.heap.size)(hR:∀v W,(pX b cs).p v W->G.R k v W)(e:∀W,(cN [] o,(Yb (evo (evl [])) o).run P W)=(true,.ok (.value (jZ W.heap.size)) (W.alloc (.cells cs.toArray T))):=by intro _;kernel_rfl):bE P Q G.flow c a0 k o:=
 bL λa W f=>⟨[],_,_,trivial,e W,aC W _,hR _ _ ⟨_,rfl,d W f.b,row_new W cs T,λi x hx=>by
  rw[World.cell?_alloc_at _ _ _ _ rfl,Ye]at hx;exact YK hx⟩⟩
section
variable {Q:Nat->Prop}{W:Xs}{v:Xu}{k n:Nat}{T G H:Nat->List (Nat × Bs)}{l U:List (Nat × Bs)}
theorem SmQ.offX(h:SmQ Q W v l)(m:0<l.length)(hx:∀i x,W.cell? ⟨k,i,none⟩=some x->x=.slice none 0 0):SmQ (λg=>Q g/\g≠k) W v l:=by
 obtain⟨g,c,f,j,n,e,d⟩:=h;refine⟨g,c,f,j,⟨n,?_⟩,e,d⟩;rintro rfl;match l,m with
 | (a,b) :: t,_=>cases hx _ _ (d 0 _ rfl)
theorem GLq.offX(h:GLq Q W v n T)(l:0<n)(t:∀j,j<n->0<(T j).length)(hx:∀i x,W.cell? ⟨k,i,none⟩=some x->x=.slice none 0 0):GLq (λg=>Q g/\g≠k) W v n T:=by
 obtain⟨g,o,c,r,s,p,q,f⟩:=h;refine⟨g,o,c,r,s,⟨p,?_⟩,q,λj d=>?_⟩
 ·rintro rfl;obtain⟨x,b,u,m,e,-⟩:=f 0 l;have:=hx _ _ b;rw[e]at this;cases this
 ·obtain⟨x,b,m⟩:=f j d;exact⟨x,b,m.offX (t j d) hx⟩
theorem GRq.offX(h:GRq Q W v n G H U)(b:0<n)(hG:∀j,j<n->0<(G j).length)(d:∀j,j<n->0<(H j).length)(c:0<U.length)(hx:∀i x,W.cell? ⟨k,i,none⟩=some x->x=.slice none 0 0):GRq (λg=>Q g/\g≠k) W v n G H U:=by
 obtain⟨p,e,m,f,o,q,l⟩:=h.ex;exact⟨p,e,m,f,o.offX b hG hx,q.offX b d hx,l.offX c hx⟩
end
theorem Mp.sayAdd{w W W':Xs}{rs d:List (Nat × List Xu)}{S:List Pq}{k r:Nat}{c:List Xu}{L l:Bs}(h:Mp w W rs S)(i:Nat)(m:SP.Only r 0 32 W W')(t:Holds encB W' r 0 l)(v:Row W' k c)(z:W.heap.size<=k)(f:rs[i]? = some (r,aA L):=by rfl)(e:rs.set i (r,aA l)++[(k,c)]=d:=by(simp only[Xv,Xw,Zx,ZE])<;>rfl):Mp w W' d S/\∀g,Nk rs g->g≠k->Nk d g:=by
 subst e;have o:∀g,Nk (rs.set i (r,aA l)++[(k,c)]) g↔Nk rs g/\g≠k:=λg=>by
  unfold Nk;rw[YU,Mp.keys f,Y3];simp
 refine⟨?_,λg j q=>(o g).2 ⟨j,q⟩⟩;have j:=h.say i m t f rfl;have B:=h.lt (Mp.key f);refine⟨j.bl,λx hx=>?_,?_,λs y=>?_⟩
 ·rcases Y3.1 hx with hx|hx
  ·exact j.rw x hx
  ·rw[YY.1 hx];exact⟨XB h.bl.size z,v⟩
 ·rw[YU,yBz];refine⟨j.nd,by simp,λa p b n e=>?_⟩;rw[Mp.keys f]at p;have q:=(h.lt p).2;simp at n;omega
 ·refine s.kp _ W _ ⟨m.size,λg n p=>m.block g p λe=>((o g).1 n).1 (by rw[e];exact Mp.key f)⟩ (s.mo _ _ _ (λg n u=>(o g).2 ⟨u,oM⟩) (h.ob s y))
variable {P:Nat}[NeZero P]{N:Nat}[NeZero N]
theorem Lq(C:Fld P)(k:∀r:EC.Pt P,On r->mul N r=none)(c:IsP N)(y:Fin N)(n:Nat):Gd N n 1 (qD N y.val (hGT P)) (λi=>(aD C k).ac (pwF (ivF y) i) (gPt C ⟨#[114,105,103,104,116]⟩ i)):=by
 have g:=oH C c.1 n;refine⟨λi b=>?_,λi b=>by unfold qD;rw[XV];exact g.len i b⟩;have h:=(g.tl i b).tm C k (pwF (ivF y) i);rw[<-mP c.1]at h;exact h
end
end Go.Proofs.YtlofhpkoaljmeaaGreat
