import Derived.Deep.AppendSrc
import Derived.Test.YtdoammpgchejcaaGreatsz6
set_option linter.unusedVariables false
set_option linter.constructorNameAsVariable false
set_option linter.unusedSimpArgs false
set_option maxRecDepth 1000000
set_option maxHeartbeats 4000000
namespace Go.Proofs.YtdoammpgchejcaaGreat
open EC NT RG SP
open _root_.And renaming intro->V0
open _root_.Array renaming any_eq_true'->XN,getD_eq_getD_getElem?->UH,getElem?_eq_getElem->UZ,getElem?_eq_some_iff->UY,length_toList->UJ,replicate->UI,setIfInBounds_comm->Z6,toList_replicate->Y3
open _root_.Bool renaming and_eq_true->UK,and_true->yBA,false_or->yAc,not_eq_true'->yAT,not_true->yBz,or_eq_true->Xu
open _root_.Go renaming Addr->Wt,Calls->UG,Exit->Yo,FuncId->Xp,Oper->Vj,Operand->XF,Program->VC,Tmp->WB,TypeId->U7,Value->Us,World->Uq,bodyPost_ret->UD,execOp->U4,run_loadVar_mid->Ye,wpList_load_mid->U5,wpList_plain->Xf,wpList_store_mid->U1,wp_seq->Uy
open _root_.Go.Act renaming put->UM
open _root_.Go.Code renaming region->V3
open _root_.Go.Instr renaming box->Vd,buildSlice->Vx,indexAt->Vk
open _root_.Go.Next renaming value->Xo
open _root_.Go.Oper renaming semAt_some->Zd,upon_enter->WX,wp->VS
open _root_.Go.Region renaming binds->VO,noSelect->XK,ready->U6,wanted->V1
open _root_.Go.RowKit.Below renaming refl->UQ
open _root_.Go.Sem renaming run_bind->UU
open _root_.Go.Value renaming agg->U2
open _root_.Go.World renaming cell?_of_block->UV,rangeAt->YS,size_alloc->UA
open _root_.List renaming all_cons->Zt,all_eq_true->U9,all_nil->ZK,all_toArray->Ya,cons_append->WY,drop->Xl,getElem?_cons_succ->U8,getElem?_cons_zero->Ve,getElem?_eq_some_iff->UE,getElem?_map->Vy,getElem?_toArray->Vf,getElem_map->Xc,length_append->Uz,length_map->UP,map_append->V9,mem_append->Wy,mem_cons->VW,mem_map->Vm,mem_of_getElem?->VI,mem_range->VZ,mem_singleton->WL,nil_append->Xq,nodup_append->YW,not_mem_nil->UX,pairwise_iff_getElem->Z2,range->VF,replicate->VA,setIfInBounds_toArray->Ur,set_cons_succ->Ut,set_cons_zero->Uu,size_toArray->VB,take->Xk
open _root_.Nat renaming add_zero->XA,div_eq_of_lt->Xd,le_refl->Uv,le_trans->UB,lt_of_lt_of_le->Uw,lt_or_ge->Wp,mod_eq_of_lt->UR,mod_lt->V4,mul_add_div->yBl,mul_comm->Vu,ne_of_gt->V7,one_mul->Xh,one_pos->yBV,pow_le_pow_right->Vz,pow_pos->XH,pow_succ->V6,reduceAdd->VJ,zero_add->UC,zero_le->Wx,zero_mod->YM
open _root_.Ne renaming symm->YB
open _root_.Option renaming isSome_iff_exists->Vq,map_eq_some_iff->Ux
open _root_.Or renaming inl->U3,inr->UW
open _root_.Prod renaming mk->V5
open Go.Proofs.Tryz
open Go.RowKit Go.Sort Go.Deep
section
variable {N:Nat}
theorem OJ(r:Nat)(L:Bs)(k:ByteArray)(g:Option Wt)(d f:Nat)(b:List UInt8)(w:Uq)(c:k.size<=1048576)(i:Holds encB w r 0 L)(j:L.size=32)(m:PartOk w (.slice g d f) b):
 UG prog 145 #[jZ r,.string k,.slice g d f] w (Ret λe w'=>e=.tuple #[]/\SP.Only r 0 32 w w'/\Holds encB w' r 0 (uN L k.data.toList b)):=
 (Bq r L k g d f b w c (OG i) j m).mono λ_ _ ⟨o,l,n⟩=>⟨_,o,rfl,l,OE n⟩
def bgL(V:Bs)(n:Nat)(A S:Bs):Bs:=jW [102,105,114,115,116] [115,101,99,111,110,100] (uN (uN (newL [114,97,110,103,101]) [99,111,109,109,105,116] V.toList) [98,105,116,115] [bV n 1]) A S
structure BgI(w W:Uq)(k r:Nat)(p:Rp)(V:Bs)(y z:Nat)(L:Bs):Prop where
 bl:kZ w W
 r3:Row W k p.l
 r4:Row W (k+1) (aA V)
 r6:Row W (k+2) [jZ r]
 r7:Row W (k+3) (wn y)
 r8:Row W (k+4) (wn z)
 rk:w.heap.size=k/\k+5<=r
 lg:Holds encB W r 0 L
 ls:L.size=32
section
variable {w W W':Uq}{k r:Nat}{p:Rp}{V:Bs}{y z:Nat}{L L':Bs}
theorem BgI.lt(h:BgI w W k r p V y z L):r<W.heap.size:=Holds.lt h.lg (by rw[h.ls];decide)
theorem BgI.grow(h:BgI w W k r p V y z L)(b:kZ W W'):BgI w W' k r p V y z L:=
 ⟨h.bl.trans (b.mono h.bl.size),h.r3.below b,h.r4.below b,h.r6.below b,h.r7.below b,h.r8.below b,h.rk,Holds.below h.lg b h.lt,h.ls⟩
theorem BgI.say(h:BgI w W k r p V y z L)(b:SP.Only r 0 32 W W')(c:Holds encB W' r 0 L')(d:L'.size=32):BgI w W' k r p V y z L':=by
 have f:=h.rk.2;have e:=h.rk.1;exact⟨h.bl.trans (wY b h.bl.size oM),h.r3.only b oM,h.r4.only b oM,h.r6.only b oM,h.r7.only b oM,h.r8.only b oM,h.rk,c,d⟩
theorem BgI.put(h:BgI w W k r p V y z L)(c b:Nat)(j:Nat)(us:List Us)(m:j<5)(f:Row (W.setCells (k+j) 0 us) (k+2) [jZ r])(e:Row (W.setCells (k+j) 0 us) (k+3) (wn c))(d:Row (W.setCells (k+j) 0 us) (k+4) (wn b))(i:2<=j):BgI w (W.setCells (k+j) 0 us) k r p V c b L:=by
 have l:=h.rk.2;have g:=h.rk.1;exact⟨RG.below_setCells oM _ _ _ h.bl,aR h.r3 oM,aR h.r4 oM,f,e,d,h.rk,fE h.lg oM,h.ls⟩
theorem BgI.p6(h:BgI w W k r p V y z L)(e:Hid (W.setCells (k+2) 0 [jZ r]=W')):BgI w W' k r p V y z L:=by
 rw[<-e.out];exact h.put y z 2 _ oM (h.r6.put rfl) (aR h.r7 oM) (aR h.r8 oM) oM
theorem BgI.p7(h:BgI w W k r p V y z L){b:Nat}(e:Hid (W.setCells (k+3) 0 (wn b)=W')):BgI w W' k r p V b z L:=by
 rw[<-e.out];exact h.put b z 3 _ oM (aR h.r6 oM) (h.r7.put rfl) (aR h.r8 oM) oM
theorem BgI.p8(h:BgI w W k r p V y z L){b:Nat}(e:Hid (W.setCells (k+4) 0 (wn b)=W')):BgI w W' k r p V y b L:=by
 rw[<-e.out];exact h.put y b 4 _ oM (aR h.r6 oM) (aR h.r7 oM) (h.r8.put rfl) oM
end
theorem BQ{P:VC}{w:Func}{tmps:Array Us}{W:Uq}{k p e:Nat}{vs us n:List Us}(t x i:WB)(T m c:U7)(z:w.results=#[.cell t T,.cell x m,.cell i c])(h:Row W k vs)(a:Row W p us)(r:Row W e n)(D:tmps[t]? = some (jZ k))(s:tmps[x]? = some (jZ p))(j:tmps[i]? = some (jZ e))
 (v:(P.underlying T).map (·.isRow)=some true) (C:(P.info? T).map (·.size)=some vs.length) (f:(P.underlying m).map (·.isRow)=some true) (o:(P.info? m).map (·.size)=some us.length) (b:(P.underlying c).map (·.isRow)=some true) (l:(P.info? c).map (·.size)=some n.length):(results w tmps).run P W=.ok (.tuple #[.agg vs.toArray,.agg us.toArray,.agg n.toArray]) W:=by
 obtain⟨d,v,hd⟩:=Ux.1 v;obtain⟨y,f,q⟩:=Ux.1 f;obtain⟨u,b,g⟩:=Ux.1 b;have E:=Ye (P:=P) W k 0 T vs d h.2.1 v hd C;have A:=Ye (P:=P) W p 0 m us y a.2.1 f q o;have B:=Ye (P:=P) W e 0 c n u r.2.1 b g l;unfold results;simp[z,D,s,j,E,A,B,asAddr]
theorem NX(O:Ord N)(p:Rp)(hp:p.Ok)(V:Bs)(hV:V.size=33)(n:Nat)(hn:n<256)(w:Uq):
 UG prog 68 #[.agg p.l.toArray,pvl V,iZ n] w (rZ w λe w'=>∃r,e=.tuple #[lgV r,nv (chS N (bgL V n p.a p.s)),nv (chS N (bB (bgL V n p.a p.s)))]/\w.heap.size<=r/\Holds encB w' r 0 (bB (bB (bgL V n p.a p.s)))):=by
 obtain⟨L0,t⟩:=hE (newL [114,97,110,103,101]);obtain⟨L1,J⟩:=hE (uN L0 [99,111,109,109,105,116] V.toList);obtain⟨L2,i⟩:=hE (uN L1 [98,105,116,115] [bV n 1]);have e3:bgL V n p.a p.s=jW [102,105,114,115,116] [115,101,99,111,110,100] L2 p.a p.s:=by unfold bgL;rw[t.out,J.out,i.out]
 have s0:L0.size=32:=by rw[<-t.out];exact zY _
 have s1:L1.size=32:=by rw[<-J.out];exact kP _ _ _
 have s2:L2.size=32:=by rw[<-i.out];exact kP _ _ _
 obtain⟨L3,P⟩:=hE (jW [102,105,114,115,116] [115,101,99,111,110,100] L2 p.a p.s);obtain⟨X,A⟩:=hE (bB L3);obtain⟨L5,q⟩:=hE (bB X);have s4:X.size=32:=by rw[<-A.out];exact bE _ _
 have s5:L5.size=32:=by rw[<-q.out];exact bE _ _
 obtain⟨y,hy⟩:=hE (chS N L3);obtain⟨z,hz⟩:=hE (chS N X);rw[e3,P.out,A.out,q.out,hy.out,hz.out];have HA:Hid (∀(r:Nat) (W:Uq),Holds encB W r 0 L2->UG prog 146 #[lgV r,.string ⟨#[102,105,114,115,116]⟩,pvl p.a,.string ⟨#[115,101,99,111,110,100]⟩,pvl p.s] W (Ret λe w'=>SP.Only r 0 32 W w'/\Holds encB w' r 0 X/\e=nv y)):=λr W h=>by
  rw[<-hy.out,<-A.out,<-P.out];exact sW O r L2 p.a p.s ⟨#[102,105,114,115,116]⟩ ⟨#[115,101,99,111,110,100]⟩ dC dC hp.a hp.s W h s2
 have HC:Hid (∀(r:Nat) (W:Uq),Holds encB W r 0 X->UG prog 147 #[lgV r] W (Ret λe w'=>SP.Only r 0 32 W w'/\Holds encB w' r 0 L5/\e=nv z)):=λr W h=>by
  rw[<-hz.out,<-q.out];exact yF O r X W h s4
 have HN:Hid (∀W:Uq,UG prog 144 #[.string ⟨#[114,97,110,103,101]⟩] W (rZ W λe w'=>∃r,e=lgV r/\W.heap.size<=r/\r<w'.heap.size/\Holds encB w' r 0 L0)):=λW=>by
  rw[<-t.out];exact GF ⟨#[114,97,110,103,101]⟩ W dC
 clear P A q hy hz t e3;obtain⟨k,hk⟩:=hE (w.heap.size);obtain⟨U,l⟩:=hE (w.alloc (.cells p.l.toArray 137));obtain⟨w2,s⟩:=hE (U.alloc (.cells (aA V).toArray 103));obtain⟨w3,o⟩:=hE (w2.alloc (.cells [.pointer none].toArray 145));obtain⟨w4,a⟩:=hE (w3.alloc (.cells (RG.z 4).toArray 49));obtain⟨w5,B⟩:=hE (w4.alloc (.cells (RG.z 4).toArray 49));have z1:Hid (U.heap.size=k+1):=by rw[<-l.out,UA,hk.out];rfl
 have z2:Hid (w2.heap.size=k+2):=by rw[<-s.out,UA,z1.out];rfl
 have z3:Hid (w3.heap.size=k+3):=by rw[<-o.out,UA,z2.out];rfl
 have z4:Hid (w4.heap.size=k+4):=by rw[<-a.out,UA,z3.out];rfl
 have z5:Hid (w5.heap.size=k+5):=by rw[<-B.out,UA,z4.out];rfl
 have f1:=aN hk l;have f2:=aN z1 s;have f3:=aN z2 o;have f4:=aN z3 a;have f5:=aN z4 B;have S:=f4.1.trans (f5.1.mono f4.1.size);have H:=f3.1.trans (S.mono f3.1.size);have Q:=f2.1.trans (H.mono f2.1.size);have F:=mk6 (f1.1.trans (Q.mono f1.1.size)) (f1.2.below Q) (f2.2.below H) (f3.2.below S) (f4.2.below f5.1) f5.2;obtain⟨vp,h4⟩:=hE (U2 p.l.toArray);obtain⟨vV,h8⟩:=hE (pvl V);have B1:Hid ((Vd 137 vp).run prog w=.ok (jZ k) U):=by rw[<-h4.out,<-l.out,<-hk.out];exact J2 hp w
 have B2:Hid ((Vd 103 vV).run prog U=.ok (.pointer (some ⟨k+1,0,none⟩)) w2):=by rw[<-h8.out,<-s.out,<-z1.out];exact rM hV U
 rw[h4.out,h8.out];have HP:=mk2 hp hV;clear f1 f2 f3 f4 f5 S H Q;go_enter func68,ntmps68;go_wp2_with (first|(refine aF (u:=vp) (v:=jZ k) (w':=U) rfl _ (.tmp 0) rfl ?_ ?_ ?_;rfl;exact B1.out)|(refine aF (u:=vV) (v:=.pointer (some ⟨k+1,0,none⟩)) (w':=w2) rfl _ (.tmp 1) rfl ?_ ?_ ?_;rfl;exact B2.out)|(refine alR 6 z2 o ?_)|(refine alR 7 z3 a ?_)|(refine alR 8 z4 B ?_)|fail)
 refine(HN w5).mono ?_;rintro e w6 ⟨uu,rfl,b,r,rfl,M,hc,c⟩;obtain⟨w7,R⟩:=hE (w6.setCells (k+2) 0 [jZ r]);have h7:=mk1 (F.2.2.2.1.below b).2.2;have K7:Hid (BgI w w7 k r p V 0 0 L0):=by
  rw[z5.out]at M;rw[<-R.out];have d:=hk.out;exact⟨RG.below_setCells oM _ _ _ (F.1.trans (b.mono F.1.size)),aR (F.2.1.below b) oM,aR (F.2.2.1.below b) oM,(F.2.2.2.1.below b).put rfl,aR (F.2.2.2.2.1.below b) oM,aR (F.2.2.2.2.2.below b) oM,⟨hk.out,M⟩,fE c oM,s0⟩
 clear F b M hc c z1 z2 z3 z4 z5 l s o a B B1 B2 HN;unfold lgV;go_wp2_with (first|(refine stR 6 R (Hid.mk' rfl) h7.out iLg kR ?_)|fail)
 clear h7 R;refine AW.begin 4 4 ?_;refine AW.va 0 (.pointer (some ⟨k+2,0,none⟩)) ?_;refine AW.va 1 (.pointer (some ⟨k+2,0,none⟩)) ?_;refine AW.ce 2 uLp (λW m=>(K7.grow m).r6.2.1 0 _ rfl) ?_;refine AW.va 3 (.slice (some ⟨k+1,0,none⟩) 33 33) ?_;refine AW.fc (λm=>OJ r L0 ⟨#[99,111,109,109,105,116]⟩ (some ⟨k+1,0,none⟩) 33 33 V.toList _ dC (K7.grow m).lg s0 (wO HP.2 (K7.grow m).r4)) ?_;rintro e w8 m ⟨rfl,g,c⟩;rw[show(⟨#[99,111,109,109,105,116]⟩:ByteArray).data.toList=[99,111,109,109,105,116] from rfl,J.out]at c;have K8:=mk1 ((K7.grow m).say g c s1);clear K7 m g c;have c6:w8.cell? ⟨k+2,0,none⟩=some (jZ r):=K8.r6.2.1 0 _ rfl;have h9:∀W:Uq,(convert 3 5 (iZ n)).run prog W=.ok (.int .u8 (SP.ub (bV n 1))) W:=λW=>by
  have d:(n:Int)%256=SP.ub (bV n 1):=xK n;rw[<-d];rfl
 have HL:=mk1 (rfl:bV n 1=bV n 1);generalize bV n 1=C at i h9;obtain⟨Z,K⟩:=hE (w8.alloc (.cells #[.int .u8 (SP.ub C)] 5));obtain⟨k9,h6⟩:=hE (w8.heap.size);have h5:Hid ((Vx 23 1 #[(0,.int .u8 (SP.ub C))]).run prog w8=.ok (sZ k9 1 1) Z):=by rw[<-K.out,<-h6.out];show _=_;kernel_rfl
 have f9:Hid (kZ w8 Z/\Row Z k9 [.int .u8 (SP.ub C)]):=by rw[<-K.out,<-h6.out];exact⟨aC _ _,aE w8 [.int .u8 (SP.ub C)] 5⟩
 have K9:=mk2 (K8.grow f9.1) (show PartOk Z (sZ k9 1 1) [C] from⟨_,k9,0,1,#[C],rfl,rfl,Uv _,(by show 1<=1099511627776;decide),UW ⟨rfl,λj hj=>by
  obtain rfl:j=0:=by simp at hj;omega
  exact⟨f9.2.2.1 0 _ rfl,(f9.2.2.2 0 yBV).2⟩⟩⟩)
 go_wp2_with (first|(refine inR 20 (Vx 23 1 #[(0,.int .u8 (SP.ub C))]) h5.out ?_)|fail)
 refine(OJ r L1 ⟨#[98,105,116,115]⟩ (some (aZ k9)) 1 1 [C] Z dC K9.1.lg s1 K9.2).mono ?_;rintro e hl ⟨uu,rfl,rfl,g,c⟩;rw[show(⟨#[98,105,116,115]⟩:ByteArray).data.toList=[98,105,116,115] from rfl,i.out]at c;have KA:=mk1 (K9.1.say g c s2);clear K9 g c K8 f9 h5 K c6;obtain⟨vl,d⟩:=hE (lgV r);obtain⟨vA,hvA⟩:=hE (pvl p.a);obtain⟨vS,h1⟩:=hE (pvl p.s);have iA:(prog.info? 103).map (·.size)=some (aA p.a).length:=by rw[aB HP.1.a];exact iCP
 have iS:(prog.info? 103).map (·.size)=some (aA p.s).length:=by rw[aB HP.1.s];exact iCP
 have H7:=Rp.at7 HP.1 KA.r3.2.1;have T:=mk1 (HA r hl KA.lg);rw[d.out,hvA.out,h1.out]at T;go_wp2_with (first|(refine ldR 6 KA.r6.2.1 d uLg iLg ?_)|(refine ldR 23 H7.1 hvA uCP iA ?_)|(refine ldR 25 H7.2.1 h1 uCP iS ?_)|fail)
 refine T.mono ?_;clear T H7;rintro e ha ⟨uu,rfl,g,c,rfl⟩;have KB:=mk1 (KA.say g c s4);clear KA g c;obtain⟨h0,f⟩:=hE (ha.setCells (k+3) 0 (wn y));obtain⟨vy,x⟩:=hE (nv y);rw[x.out];go_wp2_with (first|(refine stR 7 f x KB.r7.2.2 i40 (aM y) ?_)|fail)
 have KC:=mk1 (KB.p7 f);clear KB f;refine AW.beg 6 6 ⟨λW=>∃z L,BgI w W k r p V y z L,λ_ _ m ⟨z,L,h⟩=>⟨z,L,h.grow m⟩,true⟩ ⟨_,_,KC.grow ⟨rfl,rfl,rfl,Uv _,λ_ _=>rfl⟩⟩ ?_;refine AW.ro 0 (λW ⟨_,_,h⟩=>h.r6.2.1) d uLg iLg ?_;refine AW.ro 1 (λW ⟨_,_,h⟩=>h.r7.2.1) x u40 i40 ?_;refine AW.ro 2 (λW ⟨_,_,h⟩=>h.r6.2.1) d uLg iLg ?_;have KD:=mk1 (KC.grow (W':=h0.drew) ⟨rfl,rfl,rfl,Uv _,λ_ _=>rfl⟩);have I:=mk1 (HC r h0.drew KD.lg);rw[d.out]at I;refine AW.cw 3 (λ_=>I.out) (λe w' _ h=>⟨_,_,KD.say h.1 h.2.1 s5⟩) ?_;rintro e hg ⟨g,c,rfl⟩;simp only[UM,Ur,Ut,Uu];have KE:=mk1 (KD.say g c s5);clear KD g c I;obtain⟨he,D⟩:=hE (hg.setCells (k+2) 0 [jZ r]);obtain⟨hi,G⟩:=hE (he.setCells (k+3) 0 (wn y));obtain⟨hm,E⟩:=hE (hi.setCells (k+4) 0 (wn z));have KF:=mk1 (KE.p6 D);have KG:=mk1 (KF.p7 G);have Y:=mk1 (KG.p8 E);obtain⟨vz,h2⟩:=hE (nv z);rw[h2.out];refine AW.ss 4 d kR iLg D (λ_=>⟨KE.r6.2.2,_,_,KF.out⟩) ?_;refine AW.ss 5 x (aM y) i40 G (λ_=>⟨KF.r7.2.2,_,_,KG.out⟩) ?_;refine AW.fi (us:=wn z) h2 (aM z) i40 (λ_=>⟨KG.r8.2.2,?_⟩);rw[E.out];go_wp2_with fail
 refine UD (BQ 6 7 8 145 49 49 rfl Y.r6 Y.r7 Y.r8 rfl rfl rfl uLg iLg u40 i40 u40 i40) rfl ?_;exact⟨_,rfl,Y.bl,r,rfl,by have:=Y.rk;omega,Y.lg⟩
structure MdI(w W:Uq)(k r:Nat)(p:Rp)(y:Nat)(L:Bs):Prop where
 on:SP.Only r 0 32 w W
 r2:Row W k p.l
 r3:Row W (k+1) [jZ r]
 r4:Row W (k+2) (wn y)
 rk:w.heap.size=k/\r<k
 lg:Holds encB W r 0 L
 ls:L.size=32
section
variable {w W W':Uq}{k r:Nat}{p:Rp}{y:Nat}{L L':Bs}
theorem MdI.lt(h:MdI w W k r p y L):r<W.heap.size:=Holds.lt h.lg (by rw[h.ls];decide)
theorem MdI.grow(h:MdI w W k r p y L)(b:kZ W W'):MdI w W' k r p y L:=
 ⟨h.on.trans (SP.Only.of_below b rfl h.lt),h.r2.below b,h.r3.below b,h.r4.below b,h.rk,Holds.below h.lg b h.lt,h.ls⟩
theorem MdI.say(h:MdI w W k r p y L)(b:SP.Only r 0 32 W W')(c:Holds encB W' r 0 L')(d:L'.size=32):MdI w W' k r p y L':=by
 have:=h.rk;exact⟨h.on.trans b,h.r2.only b oM,h.r3.only b oM,h.r4.only b oM,h.rk,c,d⟩
theorem MdI.put(h:MdI w W k r p y L){b:Nat}(e:Hid (W.setCells (k+2) 0 (wn b)=W')):MdI w W' k r p b L:=by
 have:=h.rk;rw[<-e.out];exact⟨jF h.on h.rk.1 h.rk.2 oM,aR h.r2 oM,aR h.r3 oM,h.r4.put rfl,h.rk,fE h.lg oM,h.ls⟩
theorem I9(u:p.Ok)(s:Holds encB w r 0 L)(t:L.size=32):∃k c d l,Hid (w.heap.size=k)/\Hid (d.heap.size=k+2)/\Hid (d.alloc (.cells (RG.z 4).toArray 49)=l)/\Hid ((Vd 137 (.agg p.l.toArray)).run prog w=.ok (jZ k) c)/\Hid ((Vd 145 (lgV r)).run prog c=.ok (.pointer (some ⟨k+1,0,none⟩)) d)/\Hid (MdI w l k r p 0 L):=by
 have m:=Holds.lt s (by rw[t];decide);have g:=aN (T:=137) (Hid.mk' (rfl:w.heap.size=_)) (Hid.mk' (rfl:w.alloc (.cells p.l.toArray 137)=_));have j:(w.alloc (.cells p.l.toArray 137)).heap.size=w.heap.size+1:=UA _ _;have o:=Na r (w.alloc (.cells p.l.toArray 137));generalize q:w.alloc (.cells p.l.toArray 137)=c at g j o;have f2:=aN (T:=145) (z:=[jZ r]) (Hid.mk' j) (Hid.mk' rfl);have n:(c.alloc (.cells [jZ r].toArray 145)).heap.size=w.heap.size+2:=by rw[UA,j]
 rw[j]at o;have e:(Vd 145 (lgV r)).run prog c=.ok (.pointer (some ⟨w.heap.size+1,0,none⟩)) (c.alloc (.cells [jZ r].toArray 145)):=o;generalize c.alloc (.cells [jZ r].toArray 145)=d at f2 n e;have i:=aN (T:=49) (z:=RG.z 4) (Hid.mk' n) (Hid.mk' rfl);refine⟨_,c,d,_,rfl,n,rfl,?_,e,?_⟩
 ·rw[<-q];exact J2 u w
 generalize d.alloc (.cells (RG.z 4).toArray 49)=l at i;have f:=f2.1.trans (i.1.mono f2.1.size);have b:=g.1.trans (f.mono g.1.size);exact⟨SP.Only.of_below b rfl m,g.2.below f,f2.2.below i.1,i.2,⟨rfl,m⟩,Holds.below s b m,t⟩
end
def mdL(L C D:Bs):Bs:=jW [116,104,105,114,100] [102,111,117,114,116,104] L C D
theorem NC(O:Ord N)(p:Rp)(f:p.Ok)(r:Nat)(L:Bs)(w:Uq)(z:Holds encB w r 0 L)(B:L.size=32):
 UG prog 76 #[.agg p.l.toArray,lgV r] w (Ret λe w'=>SP.Only r 0 32 w w'/\Holds encB w' r 0 (bB (mdL L p.c p.d))/\e=nv (chS N (mdL L p.c p.d))):=by
 obtain⟨a,d⟩:=hE (mdL L p.c p.d);obtain⟨t,b⟩:=hE (bB a);obtain⟨x,hx⟩:=hE (chS N a);have s2:t.size=32:=by rw[<-b.out];exact bE _ _
 rw[d.out,b.out,hx.out];have E:Hid (∀(W:Uq),Holds encB W r 0 L->UG prog 146 #[lgV r,.string ⟨#[116,104,105,114,100]⟩,pvl p.c,.string ⟨#[102,111,117,114,116,104]⟩,pvl p.d] W (Ret λe w'=>SP.Only r 0 32 W w'/\Holds encB w' r 0 t/\e=nv x)):=λW h=>by
  rw[<-hx.out,<-b.out,<-d.out];exact sW O r L p.c p.d ⟨#[116,104,105,114,100]⟩ ⟨#[102,111,117,114,116,104]⟩ dC dC f.c f.d W h B
 clear d b hx;obtain⟨k,H,Q,I,U,M,q,C,F,i⟩:=I9 f z B;obtain⟨K,j⟩:=hE (U2 p.l.toArray);obtain⟨vl,c⟩:=hE (lgV r);obtain⟨X,m⟩:=hE (pvl p.c);obtain⟨Y,g⟩:=hE (pvl p.d);rw[j.out]at C;have s:=mk1 (E I i.lg);rw[c.out]at F;rw[c.out,m.out,g.out]at s;rw[j.out,c.out];have P:(prog.info? 103).map (·.size)=some (aA p.c).length:=by rw[aB f.c];exact iCP
 have R:(prog.info? 103).map (·.size)=some (aA p.d).length:=by rw[aB f.d];exact iCP
 have A:=mk1 (Rp.at7 f i.r2.2.1);clear E z;go_enter func76,ntmps76;go_wp2_with (first|(refine aF (u:=K) (v:=jZ k) (w':=H) rfl _ (.tmp 0) rfl ?_ ?_ ?_;rfl;exact C.out)|(refine aF (u:=vl) (v:=.pointer (some ⟨k+1,0,none⟩)) (w':=Q) rfl _ (.tmp 1) rfl ?_ ?_ ?_;rfl;exact F.out)|(refine alR 4 M q ?_)|(refine ldR 3 i.r3.2.1 c uLg iLg ?_)|(refine ldR 6 A.2.2.1 m uCP P ?_)|(refine ldR 8 A.2.2.2.1 g uCP R ?_)|fail)
 refine s.mono ?_;rintro e J ⟨V,rfl,G,D,rfl⟩;have y:=mk1 (i.say G D s2);clear s G D i;obtain⟨T,n⟩:=hE (J.setCells (k+2) 0 (wn x));have o:=mk1 (y.put n);obtain⟨S,l⟩:=hE (nv x);rw[l.out];go_wp2_with (first|(refine stR 4 n l y.r4.2.2 i40 (aM x) ?_)|fail)
 refine UD (aG 4 49 rfl o.r4 rfl u40 i40) rfl ?_;exact⟨_,rfl,o.on,o.lg,rfl⟩
theorem SB(L:Nat->Bs):iJ L 3=(L 0).toList++((L 1).toList++(L 2).toList):=by simp[iJ,List.range_succ]
theorem GE{B n:Nat}{w:Uq}{v:Us}{x:List UInt8}(h:w.ownsRow B 5 1 v n (x.map encB))(d:0<n)(l:n<=1000000):∃q c,v=.slice q n c/\PartOk w v x:=by
 have f:x.length=n:=by have:=h.1;rw[UP,Nat.mul_one]at this;exact this
 rcases id h with⟨-,⟨rfl,d⟩|⟨g,cap,cur,rfl,s,i,p,o,r,m⟩⟩
 ·omega
 ·have hx:x.toArray.size=n:=by rw[VB];exact f
  refine⟨_,_,rfl,some (aZ g),g,0,cap,x.toArray,by rw[hx],rfl,oM,oM,UW ⟨rfl,λj e=>?_⟩⟩;have k:j<x.length:=oM;have b:=h.cells (g:=g) rfl j (encB x[j]) (by rw[Vy,List.getElem?_eq_getElem k];rfl);rw[lH]at b;refine⟨by rw[b,getElem!_pos _ j e];simp;rfl,?_⟩;simp[World.frozen?,i]
theorem SJ(g b k:Nat)(w:Uq):(Vx 24 3 #[(0,r32 g),(1,r32 b),(2,r32 k)]).run prog w=.ok (sZ w.heap.size 3 3) (w.alloc (.cells #[r32 g,r32 b,r32 k] 23)):=kR
def enB(u m t:Nat):List UInt8:=(bx u).toList++((bx m).toList++(bx t).toList)
def enL(L:Bs)(u m t:Nat):Bs:=uN L [115,117,109,115] (enB u m t)
theorem ElQ.el{Q:Nat->Prop}{m:Nat}{W:Uq}{x:Us}{b:Bs}(h:ElQ Q m W x b):El m W x b:=by
 obtain⟨k,c,e,d,g,-,f,i⟩:=h;exact⟨k,c,e,d,g,f,i⟩
theorem NR(O:Ord N)(p:Rp)(hp:p.Ok)(hu:p.u<N)(hm:p.m<N)(ht:p.t<N)(r:Nat)(L:Bs)(w:Uq)(hL:Holds encB w r 0 L)(hl:L.size=32):
 UG prog 81 #[.agg p.l.toArray,lgV r] w (Ret λe w'=>SP.Only r 0 32 w w'/\Holds encB w' r 0 (bB (enL L p.u p.m p.t))/\e=nv (chS N (enL L p.u p.m p.t))):=by
 obtain⟨V,l⟩:=hE (enL L p.u p.m p.t);obtain⟨L2,d⟩:=hE (bB V);obtain⟨x,hx⟩:=hE (chS N V);have s1:V.size=32:=by rw[<-l.out];exact kP _ _ _
 have s2:L2.size=32:=by rw[<-d.out];exact bE _ _
 have HC:Hid (∀(W:Uq),Holds encB W r 0 V->UG prog 147 #[lgV r] W (Ret λe w'=>SP.Only r 0 32 W w'/\Holds encB w' r 0 L2/\e=nv x)):=λW h=>by
  rw[<-hx.out,<-d.out];exact yF O r V W h s1
 rw[l.out,d.out,hx.out];unfold enL enB at l;have i:=λ(a:Nat) (ha:a<N) (W:Uq)=>fW O ha W
 have b1:=λW=>i p.u hu W
 have b2:=λW=>i p.m hm W
 have b3:=λW=>i p.t ht W
 have sz:∀a:Nat,(bx a).size=32:=eE;have m:=mk3 (sz p.u) (sz p.m) (sz p.t);have HB:=mk3 b1 b2 b3;clear b1 b2 b3 i hu hm ht sz d hx;generalize bx p.u=q at *;generalize bx p.m=t at *;generalize bx p.t=s at *;obtain⟨vu,F⟩:=hE (nv p.u);obtain⟨vm,T⟩:=hE (nv p.m);obtain⟨vt,I⟩:=hE (nv p.t);rw[F.out,T.out,I.out]at HB;obtain⟨k,w1,w2,Z,hk,z2,h0,B1,B2,c⟩:=I9 hp hL hl;obtain⟨vp,K⟩:=hE (U2 p.l.toArray);obtain⟨vl,f⟩:=hE (lgV r);rw[K.out]at B1;rw[f.out]at B2;rw[K.out,f.out];clear hL;have HP:=mk1 hp;go_enter func81,ntmps81;go_wp2_with (first|(refine aF (u:=vp) (v:=jZ k) (w':=w1) rfl _ (.tmp 0) rfl ?_ ?_ ?_;rfl;exact B1.out)|(refine aF (u:=vl) (v:=.pointer (some ⟨k+1,0,none⟩)) (w':=w2) rfl _ (.tmp 1) rfl ?_ ?_ ?_;rfl;exact B2.out)|(refine alR 4 z2 h0 ?_)|fail)
 have n3:Hid (k+1≠r):=by have:=c.rk;show _≠_;omega
 have n2:Hid (k≠r):=by have:=c.rk;show _≠_;omega
 refine AW.beg 14 14 (Iv.only c.lt) (SP.Only.of_below (⟨rfl,rfl,rfl,Uv _,λ_ _=>rfl⟩:kZ Z Z.drew) rfl c.lt) ?_;refine AW.va 0 (.pointer (some ⟨k+1,0,none⟩)) ?_;refine AW.va 1 (.pointer (some ⟨k+1,0,none⟩)) ?_;refine AW.ce 2 uLp (λW b=>(c.r3.only b n3.out).2.1 0 _ rfl) ?_;refine AW.va 3 (oZ k 132) ?_;refine AW.ro 4 (λW b=>(Rp.at7 HP.out (c.r2.only b n2.out).2.1).2.2.2.2.1) F u40 i40 ?_;refine AW.va 6 (oZ k 136) ?_;refine AW.ro 7 (λW b=>(Rp.at7 HP.out (c.r2.only b n2.out).2.1).2.2.2.2.2.1) T u40 i40 ?_;refine AW.va 9 (oZ k 140) ?_;refine AW.ro 10 (λW b=>(Rp.at7 HP.out (c.r2.only b n2.out).2.1).2.2.2.2.2.2) I u40 i40 ?_;refine AW.ca 5 (λ_=>HB.1 _) (λe w' h=>h.1) ?_;rintro e w4 ⟨n,P,B,rfl⟩;simp only[UM,Ur,Ut,Uu];refine AW.ca 8 (λ_=>HB.2.1 _) (λe w' h=>h.1) ?_;rintro e w5 ⟨z,X,E,rfl⟩;simp only[UM,Ur,Ut,Uu];refine AW.ca 11 (λ_=>HB.2.2 _) (λe w' h=>h.1) ?_;rintro e D ⟨y,J,A,rfl⟩;simp only[UM,Ur,Ut,Uu];have Q:=aC D (.cells #[r32 B,r32 E,r32 A] 23);have R:=aE D [r32 B,r32 E,r32 A] 23;have o:=z.trans (y.mono z.size);have E1:=(P.keep (Kq.of_below o)).keep (Kq.of_below Q);have E2:=(X.keep (Kq.of_below y)).keep (Kq.of_below Q);have E3:=J.keep (Kq.of_below Q);refine AW.ns 12 (SJ B E A D) Q ?_;have g:=mk1 (JM D.heap.size 3 3 (λj=>if j=0 then q else if j=1 then t else s) dC (λj hj=>by
  match j,hj with
  | 0,_=>show q.size<=10000;rw[m.1];decide
  | 1,_=>show t.size<=10000;rw[m.2.1];decide
  | 2,_=>show s.size<=10000;rw[m.2.2];decide) (D.alloc (.cells #[r32 B,r32 E,r32 A] 23)) R.1 λj hj=>by
  match j,hj with
  | 0,_=>exact⟨r32 B,R.2.1 0 _ rfl,by show El q.size _ _ q;rw[m.1];exact E1.el⟩
  | 1,_=>exact⟨r32 E,R.2.1 1 _ rfl,by show El t.size _ _ t;rw[m.2.1];exact E2.el⟩
  | 2,_=>exact⟨r32 A,R.2.1 2 _ rfl,by show El s.size _ _ s;rw[m.2.2];exact E3.el⟩)
 have h1:(iJ (λj=>if j=0 then q else if j=1 then t else s) 3)=q.toList++(t.toList++s.toList):=SB _;rw[h1]at g;have h2:(q.toList++(t.toList++s.toList)).length=96:=by simp only[Uz,UJ,m.1,m.2.1,m.2.2]
 generalize q.toList++(t.toList++s.toList)=xx at *;rw[h2]at g;have Y:=mk1 (((UQ _ Z).drew.trans (n.trans (o.mono n.size))).trans (Q.mono (UB n.size o.size)));clear P X J E1 E2 E3 R n z y o;generalize D.alloc (.cells #[r32 B,r32 E,r32 A] 23)=w7 at *;refine AW.ca 13 (λ_=>g.out) (λe w' h=>h.1) ?_;rintro e w8 ⟨G,U⟩;simp only[UM,Ur,Ut,Uu];obtain⟨qa,qc,rfl,M⟩:=GE U dC dC;have K8:=mk1 (c.grow (Y.trans (G.mono Y.size)));refine AW.cw 14 (λ_=>OJ r L ⟨#[115,117,109,115]⟩ qa 96 qc xx w8 dC K8.lg hl M) (λe w' hI h=>hI.trans h.2.1) ?_;rintro e w9 ⟨rfl,b,C⟩;simp only[UM,Ur,Ut,Uu];rw[show(⟨#[115,117,109,115]⟩:ByteArray).data.toList=[115,117,109,115] from rfl,l.out]at C;have K9:=mk1 (K8.say b C s1);clear b C U M g G K8;refine AW.dn λ_=>?_
 have HD:=mk1 (HC w9 K9.lg);rw[f.out]at HD;go_wp2_with (first|(refine ldR 3 K9.r3.2.1 f uLg iLg ?_)|fail)
 refine HD.mono ?_;rintro e wA ⟨uu,rfl,b,C,rfl⟩;have KA:=mk1 (K9.say b C s2);clear HD b C K9;obtain⟨wB,H⟩:=hE (wA.setCells (k+2) 0 (wn x));have KB:=mk1 (KA.put H);obtain⟨vx,S⟩:=hE (nv x);rw[S.out];go_wp2_with (first|(refine stR 4 H S KA.r4.2.2 i40 (aM x) ?_)|fail)
 refine UD (aG 4 49 rfl KB.r4 rfl u40 i40) rfl ?_;exact⟨_,rfl,KB.on,KB.lg,rfl⟩
end
section
variable {P:Nat}[NeZero P]{N:Nat}
theorem uAr:(prog.underlying 28).map (·.isRow)=some true:=kR
theorem iAr:(prog.info? 28).map (·.size)=some 11:=kR
theorem SL(a b c d:Us)(w:Uq):(Vd 26 (.agg #[a,b,c,d])).run prog w=.ok (jZ w.heap.size) (w.alloc (.cells #[a,b,c,d] 26)):=kR
def z11:List Us:=VA 11 (.slice none 0 0)
structure RgT(Q:Nat->Prop)(W:Uq)(p:Rp)(a b c d e f g:Nat):Prop where
 a:ElQ Q 33 W (r33 a) p.a
 b:ElQ Q 33 W (r33 b) p.s
 c:ElQ Q 33 W (r33 c) p.c
 d:ElQ Q 33 W (r33 d) p.d
 e:ElQ Q 32 W (r32 e) (bx p.u)
 f:ElQ Q 32 W (r32 f) (bx p.m)
 g:ElQ Q 32 W (r32 g) (bx p.t)
theorem RgT.keep{Q:Nat->Prop}{W W':Uq}{p:Rp}{a b c d e f g:Nat}(h:RgT Q W p a b c d e f g)(k:Kq Q W W'):RgT Q W' p a b c d e f g:=⟨h.a.keep k,h.b.keep k,h.c.keep k,h.d.keep k,h.e.keep k,h.f.keep k,h.g.keep k⟩
theorem RgT.mono2{Q Q':Nat->Prop}{W:Uq}{p:Rp}{a b c d e f g:Nat}(h:RgT Q W p a b c d e f g)(k:∀g,g<W.heap.size->Q g->Q' g):RgT Q' W p a b c d e f g:=⟨h.a.mono2 k,h.b.mono2 k,h.c.mono2 k,h.d.mono2 k,h.e.mono2 k,h.f.mono2 k,h.g.mono2 k⟩
theorem Ox(O:Ord N)(p:Rp)(K:p.Ok)(hu:p.u<N)(hm:p.m<N)(ht:p.t<N)(r B j o:Us)(h1:r.oneCell'=true/\B.oneCell'=true/\j.oneCell'=true/\o.oneCell'=true)(w:Uq):
 UG prog 82 #[.agg p.l.toArray,.agg #[r,B,j,o]] w (rZ w λe w'=>∃a b c d u m t,e=.agg #[r33 a,r33 b,r33 c,r33 d,r32 u,r32 m,r32 t,r,B,j,o]/\RgT (w.heap.size<=·) w' p a b c d u m t):=by
 have D:=mk7 (λW=>fZ K.a W) (λW=>fZ K.s W) (λW=>fZ K.c W) (λW=>fZ K.d W) (λW=>fW O hu W) (λW=>fW O hm W) (λW=>fW O ht W);obtain⟨va,hc⟩:=hE (pvl p.a);obtain⟨vs,h0⟩:=hE (pvl p.s);obtain⟨vc,h8⟩:=hE (pvl p.c);obtain⟨vd,h3⟩:=hE (pvl p.d);obtain⟨vu,Z⟩:=hE (nv p.u);obtain⟨vm,h9⟩:=hE (nv p.m);obtain⟨vt,h2⟩:=hE (nv p.t);rw[hc.out,h0.out,h8.out,h3.out,Z.out,h9.out,h2.out]at D;have iP:∀ {b:Bs},b.size=33->(prog.info? 103).map (·.size)=some (aA b).length:=λh=>by rw[aB h];exact iCP
 obtain⟨k,hk⟩:=hE (w.heap.size);obtain⟨U,E⟩:=hE (w.alloc (.cells p.l.toArray 137));obtain⟨k3,G⟩:=hE (U.heap.size);obtain⟨w2,H⟩:=hE (U.alloc (.cells [r,B,j,o].toArray 26));obtain⟨k4,J⟩:=hE (w2.heap.size);obtain⟨C,h5⟩:=hE (w2.alloc (.cells z11.toArray 28));have F:=Nb hk E G H J h5;have ha:w.heap.size<=k4/\k4<C.heap.size:=⟨by rw[<-J.out];exact UB (aN hk E).1.size (aN G H).1.size,F.2.2.2.1⟩
 have i:=mk2 ha h1;obtain⟨vp,h6⟩:=hE (U2 p.l.toArray);obtain⟨vi,y⟩:=hE (U2 #[r,B,j,o]);have B1:Hid ((Vd 137 vp).run prog w=.ok (jZ k) U):=by rw[<-h6.out,<-E.out,<-hk.out];exact J2 K w
 have B2:Hid ((Vd 26 vi).run prog U=.ok (jZ k3) w2):=by rw[<-y.out,<-H.out,<-G.out];exact SL _ _ _ _ U
 have HP:=mk1 K;rw[h6.out,y.out];clear ha h1;go_enter func82,ntmps82;go_wp2_with (first|(refine aF (u:=vp) (v:=jZ k) (w':=U) rfl _ (.tmp 0) rfl ?_ ?_ ?_;rfl;exact B1.out)|(refine aF (u:=vi) (v:=jZ k3) (w':=w2) rfl _ (.tmp 1) rfl ?_ ?_ ?_;rfl;exact B2.out)|(refine alR 4 J h5 ?_)|fail)
 have I:∀W,kZ C W->_:=λW f=>Rp.at7 HP.out (F.2.1.below f).2.1
 refine AW.begin 23 23 ?_;refine AW.va 0 (jZ k) ?_;refine AW.ro 1 (λW f=>(I W f).1) hc uCP (iP HP.a) ?_;refine AW.va 3 (oZ k 33) ?_;refine AW.ro 4 (λW f=>(I W f).2.1) h0 uCP (iP HP.s) ?_;refine AW.va 6 (oZ k 66) ?_;refine AW.ro 7 (λW f=>(I W f).2.2.1) h8 uCP (iP HP.c) ?_;refine AW.va 9 (oZ k 99) ?_;refine AW.ro 10 (λW f=>(I W f).2.2.2.1) h3 uCP (iP HP.d) ?_;refine AW.va 12 (oZ k 132) ?_;refine AW.ro 13 (λW f=>(I W f).2.2.2.2.1) Z u40 i40 ?_;refine AW.va 15 (oZ k 136) ?_;refine AW.ro 16 (λW f=>(I W f).2.2.2.2.2.1) h9 u40 i40 ?_;refine AW.va 18 (oZ k 140) ?_;refine AW.ro 19 (λW f=>(I W f).2.2.2.2.2.2) h2 u40 i40 ?_;refine AW.ro 21 (λW f=>(F.2.2.1.below f).2.1) y Lf Jf ?_;refine AW.ca 2 (λ_=>D.1 _) (λe w' h=>h.1) ?_;rintro e w4 ⟨h7,E1,Q,rfl⟩;simp only[UM,Ur,Ut,Uu];refine AW.ca 5 (λ_=>D.2.1 _) (λe w' h=>h.1) ?_;rintro e w5 ⟨A,E2,X,rfl⟩;simp only[UM,Ur,Ut,Uu];refine AW.ca 8 (λ_=>D.2.2.1 _) (λe w' h=>h.1) ?_;rintro e w6 ⟨s,E3,P,rfl⟩;simp only[UM,Ur,Ut,Uu];refine AW.ca 11 (λ_=>D.2.2.2.1 _) (λe w' h=>h.1) ?_;rintro e w7 ⟨z,E4,V,rfl⟩;simp only[UM,Ur,Ut,Uu];refine AW.ca 14 (λ_=>D.2.2.2.2.1 _) (λe w' h=>h.1) ?_;rintro e w8 ⟨l,E5,S,rfl⟩;simp only[UM,Ur,Ut,Uu];refine AW.ca 17 (λ_=>D.2.2.2.2.2.1 _) (λe w' h=>h.1) ?_;rintro e w9 ⟨x,E6,L,rfl⟩;simp only[UM,Ur,Ut,Uu];refine AW.ca 20 (λ_=>D.2.2.2.2.2.2 _) (λe w' h=>h.1) ?_;rintro e Y ⟨h4,E7,M,rfl⟩;simp only[UM,Ur,Ut,Uu];rw[<-y.out];refine AW.nx 22 (.agg #[r33 Q,r33 X,r33 P,r33 V,r32 S,r32 L,r32 M,r,B,j,o]) ?_;have b9:=h4;have b8:=x.trans (b9.mono x.size);have b7:=l.trans (b8.mono l.size);have b6:=z.trans (b7.mono z.size);have b5:=s.trans (b6.mono s.size);have b4:=A.trans (b5.mono A.size);have s3:C.heap.size<=w4.heap.size:=h7.size;have q:∀ {W:Uq}{m:Nat}{v:Us}{b:Bs},C.heap.size<=W.heap.size->ElQ (W.heap.size<=·) m Y v b->ElQ (C.heap.size<=·) m Y v b:=λhW h=>h.mono2 λg _ R=>UB hW R
 have t5:=UB s3 A.size;have t6:=UB t5 s.size;have t7:=UB t6 z.size;have t8:=UB t7 l.size;have t9:=UB t8 x.size;have T:Hid (RgT (C.heap.size<=·) Y p Q X P V S L M):=⟨(E1.keep (Kq.of_below b4)).mono2 λg _ R=>R,q s3 (E2.keep (Kq.of_below b5)),q t5 (E3.keep (Kq.of_below b6)),q t6 (E4.keep (Kq.of_below b7)),q t7 (E5.keep (Kq.of_below b8)),q t8 (E6.keep (Kq.of_below b9)),q t9 E7⟩
 clear q E1 E2 E3 E4 E5 E6 E7 b4 b5 b6 b7 b8 b9 h7 A s z l x h4 s3 t5 t6 t7 t8 t9;refine AW.fi (us:=[r33 Q,r33 X,r33 P,r33 V,r32 S,r32 L,r32 M,r,B,j,o]) (Hid.mk' rfl) (by simp only[Ya,Zt,ZK,i.2.1,i.2.2.1,i.2.2.2.1,i.2.2.2.2,show ∀g,(r33 g).oneCell'=true from λ_=>rfl,show ∀g,(r32 g).oneCell'=true from λ_=>rfl,yBA]) iAr (λf=>?_);obtain⟨wB,n⟩:=hE (Y.setCells k4 0 [r33 Q,r33 X,r33 P,r33 V,r32 S,r32 L,r32 M,r,B,j,o]);have r4:=F.2.2.2.below f;have KE:Hid (Y.there k4 0 11/\Row wB k4 [r33 Q,r33 X,r33 P,r33 V,r32 S,r32 L,r32 M,r,B,j,o]/\kZ w wB/\RgT (w.heap.size<=·) wB p Q X P V S L M):=by
  have kq:Kq (C.heap.size<=·) Y wB:=by rw[<-n.out];exact Kq.set λg R=>by have:=i.1;omega
  refine⟨r4.2.2,by rw[<-n.out];exact r4.put rfl,by rw[<-n.out];exact RG.below_setCells i.1.1 _ _ _ (F.1.trans (f.mono F.1.size)),(T.keep kq).mono2 λg _ R=>UB F.1.size R⟩
 rw[n.out];refine⟨KE.1,?_⟩;go_wp2_with fail
 refine UD (aG 4 28 rfl KE.2.1 rfl uAr iAr) rfl ?_;exact⟨_,rfl,KE.2.2.1,_,_,_,_,_,_,_,rfl,KE.2.2.2⟩
end
section
variable {N:Nat}
structure Pq where
 p:(Nat->Prop)->Uq->Prop
 kp:∀Q W W',Kq Q W W'->p Q W->p Q W'
 mo:∀Q Q' W,(∀g,g<W.heap.size->Q g->Q' g)->p Q W->p Q' W
abbrev pqS(v:Us)(n:Nat)(a:Nat->Nat):Pq:=⟨λQ W=>SLq Q W v n a,λ_ _ _ k h=>h.keep k,λ_ _ _ m h=>h.mono2 m⟩
abbrev pqG(v:Us)(n:Nat)(G H:Nat->List (Nat × Bs))(U:List (Nat × Bs)):Pq:=⟨λQ W=>GRq Q W v n G H U,λ_ _ _ k h=>h.keep k,λ_ _ _ m h=>h.mono2 m⟩
abbrev pqM(v:Us)(l:List (Nat × Bs)):Pq:=⟨λQ W=>SmQ Q W v l,λ_ _ _ k h=>h.keep k,λ_ _ _ m h=>h.mono2 m⟩
def Nk(k:List (Nat × List Us))(g:Nat):Prop:=g ∉ k.map (·.1)
structure Mp(w W:Uq)(rs:List (Nat × List Us))(S:List Pq):Prop where
 bl:kZ w W
 rw:∀x∈rs,w.heap.size<=x.1/\Row W x.1 x.2
 nd:(rs.map (·.1)).Nodup
 ob:∀s∈S,s.p (Nk rs) W
namespace Mp
variable {w W W':Uq}{rs rs':List (Nat × List Us)}{S S':List Pq}{k r i:Nat}{c c':List Us}{L L':Bs}
theorem start(w:Uq):Mp w w [] []:=⟨UQ _ _,λ_ h=>(UX h).elim,List.nodup_nil,λ_ h=>(UX h).elim⟩
theorem grow(h:Mp w W rs S)(k:kZ W W'):Mp w W' rs S:=⟨h.bl.trans (k.mono h.bl.size),λx hx=>⟨(h.rw x hx).1,(h.rw x hx).2.below k⟩,h.nd,λs b=>s.kp _ _ _ (Kq.of_below k) (h.ob s b)⟩
theorem drew(h:Mp w W rs S):Mp w W.drew rs S:=h.grow ⟨rfl,rfl,rfl,Uv _,λ_ _=>rfl⟩
theorem lt(h:Mp w W rs S){g:Nat}(k:g∈rs.map (·.1)):w.heap.size<=g/\g<W.heap.size:=by
 obtain⟨x,hx,rfl⟩:=Vm.1 k;exact⟨(h.rw x hx).1,(h.rw x hx).2.1⟩
theorem nk(h:Mp w W rs S)(g:Nat)(k:W.heap.size<=g):Nk rs g:=λe=>by have:=(h.lt e).2;omega
theorem at_(h:Mp w W rs S)(i:Nat)(b:rs[i]? = some (k,c):=by rfl):Row W k c:=(h.rw _ (VI b)).2
theorem key(b:rs[i]? = some (k,c)):k∈rs.map (·.1):=Vm.2 ⟨_,VI b,rfl⟩
theorem get(h:Mp w W rs S)(j:Nat){s:Pq}(k:S[j]? = some s:=by rfl):s.p (Nk rs) W:=h.ob _ (VI k)
theorem has(h:Mp w W rs S)(s:Pq)(k:s.p (Nk rs) W)(e:S++[s]=S':=by(simp only[WY,Xq])<;>rfl):Mp w W rs S':=e ▸ ⟨h.bl,h.rw,h.nd,λx hx=>by
 rcases Wy.1 hx with hx|hx
 ·exact h.ob x hx
 ·rw[WL.1 hx];exact k⟩
theorem gets(h:Mp w W rs S)(k:kZ W W')(s:Pq)(c:s.p (W.heap.size<=·) W')(e:S++[s]=S':=by(simp only[WY,Xq])<;>rfl):Mp w W' rs S':=(h.grow k).has s (s.mo _ _ _ (λg _ b=>h.nk g b) c) e
theorem q(_:Mp w W rs S):∃Q,Hid (Nk rs=Q):=⟨_,rfl⟩
theorem uP{Q:Nat->Prop}(h:Mp w W rs S)(k:Hid (Nk rs=Q))(j:Nat){s:Pq}(b:S[j]? = some s:=by rfl):s.p Q W:=by rw[<-k.out];exact h.get j b
theorem nkq{Q:Nat->Prop}(h:Mp w W rs S)(k:Hid (Nk rs=Q))(g:Nat)(b:W.heap.size<=g):Q g:=by rw[<-k.out];exact h.nk g b
theorem MH{Q:Nat->Prop}(h:Mp w W rs S)(k:Hid (Nk rs=Q))(s:Pq)(b:s.p Q W)(e:S++[s]=S':=by(simp only[WY,Xq])<;>rfl):Mp w W rs S':=h.has s (by rw[k.out];exact b) e
theorem ne{Q:Nat->Prop}(_:Mp w W rs S)(f:Hid (Nk rs=Q))(i:Nat)(d:rs[i]? = some (k,c):=by rfl)(g:Nat)(b:Q g):g≠k:=λe=>by
 rw[<-f.out]at b;exact b (by rw[e];exact Vm.2 ⟨_,VI d,rfl⟩)
theorem add(h:Mp w W rs S)(f:kZ W W')(l:Row W' k c)(j:W.heap.size<=k)(e:rs++[(k,c)]=rs':=by(simp only[WY,Xq])<;>rfl):Mp w W' rs' S:=by
 subst e;have i:=h.grow f;refine⟨i.bl,λx hx=>?_,?_,λs n=>?_⟩
 ·rcases Wy.1 hx with hx|hx
  ·exact i.rw x hx
  ·rw[WL.1 hx];exact⟨UB h.bl.size j,l⟩
 ·rw[V9,YW];refine⟨h.nd,by simp,λa m b d e=>?_⟩;have o:=(h.lt m).2;simp at d;omega
 ·refine s.kp _ _ _ (Kq.of_below f) (s.mo _ _ _ (λg m d e=>?_) (h.ob s n));rw[V9,Wy]at e;rcases e with e|e
  ·exact d e
  ·simp at e;omega
theorem adds(h:Mp w W rs S)(f:kZ W W')(ns:List (Nat × List Us))(k:(ns.map (·.1)).Nodup)(c:∀x∈ns,W.heap.size<=x.1/\Row W' x.1 x.2)(e:rs++ns=rs':=by(simp only[WY,Xq])<;>rfl):Mp w W' rs' S:=by
 subst e;have l:=h.grow f;have i:∀g,g∈ns.map (·.1)->W.heap.size<=g:=λg j=>by
  obtain⟨x,hx,rfl⟩:=Vm.1 j;exact(c x hx).1
 refine⟨l.bl,λx hx=>?_,?_,λs m=>?_⟩
 ·rcases Wy.1 hx with hx|hx
  ·exact l.rw x hx
  ·exact⟨UB h.bl.size (c x hx).1,(c x hx).2⟩
 ·rw[V9,YW];refine⟨h.nd,k,λa n b d e=>?_⟩;have o:=(h.lt n).2;have p:=i b d;omega
 ·refine s.kp _ _ _ (Kq.of_below f) (s.mo _ _ _ (λg j k e=>?_) (h.ob s m));rw[V9,Wy]at e;rcases e with e|e
  ·exact k e
  ·have:=i g e;omega
theorem new{T:U7}(h:Mp w W rs S)(b:Hid (W.heap.size=k))(d:Hid (W.alloc (.cells c.toArray T)=W'))(e:rs++[(k,c)]=rs':=by(simp only[WY,Xq])<;>rfl):Mp w W' rs' S:=by
 have f:=aN b d;exact h.add f.1 f.2 (Nat.le_of_eq b.out) e
theorem keys(b:rs[i]? = some (k,c)):(rs.set i (k,c')).map (·.1)=rs.map (·.1):=by
 rw[List.map_set];refine List.ext_getElem? λj=>?_
 rw[List.getElem?_set];have d:=(UE.1 b).1;split
 ·rename_i e
  subst e;rw[yCj (by simpa using d),Vy,b];rfl
 ·rfl
theorem Rl(b:rs[i]? = some (k,c)):Nk (rs.set i (k,c'))=Nk rs:=funext λg=>by unfold Nk;rw[keys b]
theorem turn(h:Mp w W rs S)(d:rs[i]? = some (k,c))(y:kZ w W')(r:W.heap.size<=W'.heap.size)(ho:∀g,g≠k->g<W.heap.size->W'.heap[g]? = W.heap[g]?)(z:Row W' k c'):Mp w W' (rs.set i (k,c')) S:=by
 refine⟨y,λx hx=>?_,by rw[keys d];exact h.nd,λs f=>?_⟩
 ·have A:=hx;obtain⟨j,l,e⟩:=List.mem_iff_getElem.1 hx;rw[List.length_set]at l;rw[List.getElem_set]at e;by_cases b:i=j
  ·rw[yCj b]at e;rw[<-e];exact⟨(h.lt (key d)).1,z⟩
  ·rw[yCk b]at e;have a:rs[j]∈rs:=List.getElem_mem l;have hh:=h.rw _ a;rw[<-e];have o:rs[j].1≠k:=λe'=>by
    have n:=(UE.1 d)
    obtain⟨p,m⟩:=n;have t:=Z2.1 h.nd;have v:(rs.map (·.1))[i]'(by simpa using p)=k:=by rw[Xc,m]
    have u:(rs.map (·.1))[j]'(by simpa using l)=k:=by rw[Xc];exact e'
    rcases Wp i j with q|B
    ·exact t i j _ _ q (v.trans u.symm)
    ·exact t j i _ _ oM (u.trans v.symm)
   exact⟨hh.1,aV hh.2 r (ho _ o hh.2.1)⟩
 ·rw[Rl d];exact s.kp _ _ _ ⟨r,λg b n=>ho g (λe=>b (by rw[e];exact key d)) n⟩ (h.ob s f)
theorem upd{o:Nat}{us:List Us}(h:Mp w W rs S)(i:Nat)(b:Hid (W.setCells k o us=W'))(f:Row (W.setCells k o us) k c')(d:rs[i]? = some (k,c):=by rfl)(e:rs.set i (k,c')=rs':=by(simp only[Ut,Uu])<;>rfl):Mp w W' rs' S:=by
 subst e;rw[b.out]at f;refine h.turn d ?_ ?_ (λg j _=>?_) f
 ·rw[<-b.out];exact RG.below_setCells (h.lt (key d)).1 _ _ _ h.bl
 ·rw[<-b.out,setCells_size];exact Uv _
 ·rw[<-b.out];exact aH k us o W g j
theorem put(h:Mp w W rs S)(i:Nat)(f:Hid (W.setCells k 0 c'=W'))(b:rs[i]? = some (k,c):=by rfl)(d:c'.length=c.length:=by rfl)(e:rs.set i (k,c')=rs':=by(simp only[Ut,Uu])<;>rfl):Mp w W' rs' S:=h.upd i f ((h.at_ i b).put d) b e
theorem th(h:Mp w W rs S)(i:Nat)(d:rs[i]? = some (k,c):=by rfl)(b:c'.length=c.length:=by rfl):W.there k 0 c'.length:=by rw[b];exact(h.at_ i d).2.2
theorem say(h:Mp w W rs S)(i:Nat)(k:SP.Only r 0 32 W W')(d:Holds encB W' r 0 L')(b:rs[i]? = some (r,aA L):=by rfl)(e:rs.set i (r,aA L')=rs':=by(simp only[Ut,Uu])<;>rfl):Mp w W' rs' S:=by
 subst e;have c:=h.lt (key b);refine h.turn b (h.bl.trans (wY k h.bl.size c.1)) k.size (λg j f=>k.block g f j) (pW d (Uw c.2 k.size))
theorem log(h:Mp w W rs S)(i:Nat)(k:rs[i]? = some (r,aA L):=by rfl):Holds encB W r 0 L:=row_holds (h.at_ i k)
theorem wk(h:Mp w W rs S)(i:Nat)(b:rs[i]? = some (k,c):=by rfl):∃c,Mp w W (rs.set i (k,c)) S:=⟨c,by
 obtain⟨e,d⟩:=UE.1 b;rw[<-d,List.set_getElem_self];exact h⟩
end Mp
abbrev Iv.mx(w:Uq)(e:List (Nat × List Us))(S:List Pq)(i k:Nat)(b:Bool):Iv:=⟨λW=>∃c,Mp w W (e.set i (k,c)) S,λ_ _ d ⟨c,h⟩=>⟨c,h.grow d⟩,b⟩
abbrev Iv.mp(w:Uq)(c:List (Nat × List Us))(S:List Pq)(b:Bool):Iv:=⟨λW=>Mp w W c S,λ_ _ k h=>h.grow k,b⟩
end
namespace SPA
variable {N:Nat}[NeZero N]{M:Type}
namespace Md
variable (D:Md N M)
theorem cancel(a b c:M):D.ad a b=D.ad a c↔b=c:=by
 constructor
 ·intro h;have k:D.ad (D.ac (-1) a) (D.ad a b)=D.ad (D.ac (-1) a) (D.ad a c):=by rw[h]
  rw[<-D.assoc,<-D.assoc,D.comm _ a,D.AQ,D.zadd,D.zadd]at k;exact k
 ·rintro rfl;rfl
theorem Ir(Y W T:Nat->(Fin N))(z:(Fin N))(k:Nat->M)(n:Nat)(h:∀i,i<n->Y i*W i=1):
 D.dt (λi=>z*Y i+z*z*T i) (λi=>D.ac (W i) (k i)) n=D.dt (λi=>z+z*z*(T i*W i)) k n:=
 D.xX n λi b=>by
  have c:=h i b;rw[D.acAc,show(z*Y i+z*z*T i)*W i=z+z*z*(T i*W i) by
   generalize Y i=y,W i=w,T i=t at *;grind]
theorem Gm(H G:M)(t d tau:(Fin N))(A B E:M):D.cm H G (t-d) tau=D.ad (D.ad A B) E↔D.cm H G t tau=D.ad (D.ad A (D.ac d H)) (D.ad B E):=by
 rw[<-D.cancel (D.ac d H)];have b:D.ad (D.ac d H) (D.cm H G (t-d) tau)=D.cm H G t tau:=by
  unfold cm;rw[<-D.assoc,<-D.adAc,show d+(t-d)=t by grind]
 have k:D.ad (D.ac d H) (D.ad (D.ad A B) E)=D.ad (D.ad A (D.ac d H)) (D.ad B E):=by ac_rfl
 rw[b,k]
theorem Gx(A X G:M)(mu x t w:(Fin N))(L K U:M):
 D.ad (D.ad (D.ad (D.ad A (D.ac x X)) (D.ac (-1) (D.ac mu G))) (D.ad L K)) (D.ac t (D.ac w U))=D.ad (D.ad (D.ad (D.ad A (D.ac x X)) (D.ac (-mu) G)) (D.ad L K)) (D.ac (t*w) U):=by
 rw[D.acAc,D.acAc,show(-1:(Fin N))*mu = -mu by grind]
end Md
end SPA
section
open SPA
variable {N:Nat}[NeZero N]{M:Type}
structure Rv(N:Nat) where
 v:Nat
 n:Nat
 s:Nat->Fin N
 q:Nat->Fin N
 al:Fin N
 rho:Fin N
 t1:Fin N
 t2:Fin N
 k:Fin N
 y:Fin N
 z:Fin N
 x:Fin N
 w:Fin N
namespace Rv
variable (R:Rv N)
def l(i:Nat):Fin N:=btF N R.v i
def m(i:Nat):Fin N:=btF N R.v i-1
def a0(i:Nat):Fin N:=R.l i+-R.z
def sh(i:Nat):Fin N:=R.z*pwF R.y i+R.z*R.z*pwF (ofF N 2) i
def b0(i:Nat):Fin N:=R.m i*pwF R.y i+R.sh i
def b1(i:Nat):Fin N:=R.q i*pwF R.y i
def a(i:Nat):Fin N:=R.a0 i+R.s i*R.x
def b(i:Nat):Fin N:=R.b0 i+R.b1 i*R.x
def c1:Fin N:=Md.pr R.a0 R.b1 R.n+Md.pr R.s R.b0 R.n
def c2:Fin N:=Md.pr R.s R.b1 R.n
def t:Fin N:=Md.pr R.a R.b R.n
def tau:Fin N:=R.t1*R.x+R.t2*R.x*R.x+R.z*R.z*R.k
def mu:Fin N:=R.al+R.rho*R.x
def d:Fin N:=(R.z-R.z*R.z)*Md.pr (λ_=>1) (pwF R.y) R.n-R.z*R.z*R.z*ofF N (2^R.n-1)
variable (D:Md N M) (G H U:M) (g k:Nat->M)
def pA:M:=D.ad (D.ac R.al G) (D.ad (D.dt R.l g R.n) (D.dt R.m k R.n))
def pS:M:=D.ad (D.ac R.rho G) (D.ad (D.dt R.s g R.n) (D.dt R.q k R.n))
def pV:M:=D.cm H G (ofF N R.v) R.k
def p1:M:=D.cm H G R.c1 R.t1
def p2:M:=D.cm H G R.c2 R.t2
def hh(i:Nat):M:=D.ac (pwF (ivF R.y) i) (k i)
def rg:Md.Rg (Fin N):=rgF R.v R.s R.q R.y (ivF R.y) R.z R.x
theorem Ss:R.rg.a0=R.a0:=funext λi=>by
 show R.l i-R.z=R.l i+-R.z;grind
theorem Sr:R.rg.b0=R.b0:=funext λi=>by
 show pwF R.y i*(R.m i+R.z)+R.z*R.z*pwF (ofF N 2) i=R.m i*pwF R.y i+(R.z*pwF R.y i+R.z*R.z*pwF (ofF N 2) i);grind
theorem PQ:R.rg.b1=R.b1:=funext λi=>by
 show pwF R.y i*R.q i=R.q i*pwF R.y i;grind
theorem e_a:R.rg.a=R.a:=funext λi=>by
 show R.rg.a0 i+_=_;rw[Ss];rfl
theorem e_b:R.rg.b=R.b:=funext λi=>by
 show R.rg.b0 i+R.rg.b1 i*_=_;rw[Sr,PQ];rfl
theorem IJ(b:Nat->Fin N):∀n,Md.pr (λ_=>1) b n=(SPA.own N).sm b n
 | 0=>rfl
 | n+1=>by
  show Md.pr (λ_=>1) b n+1*b n=(SPA.own N).sm b n+b n;rw[IJ b n];grind
theorem e_d:R.rg.d R.n=R.d:=by
 unfold d;rw[IJ];exact QU _ _ _ _ _ _ _ _
theorem sums(b:IsP N)(c:R.y.val≠0)(hv:R.v<2^R.n):D.cm H G (R.t-R.d) R.tau=D.ad (D.ad (D.ac (R.z*R.z) (R.pV D G H)) (D.ac R.x (R.p1 D G H))) (D.ac (R.x*R.x) (R.p2 D G H)):=by
 rw[D.Gm];have h:=D.Db R.rg R.n (IB R.v R.s R.q R.z R.x (sM b R.y c) R.n) H G R.k R.t1 R.t2;have ev:R.rg.v R.n=ofF N R.v:=QT _ _ _ _ _ _ _ _ hv;have e:R.rg.t1 R.n=R.c1:=by
  show Md.pr R.rg.a0 R.rg.b1 R.n+Md.pr R.s R.rg.b0 R.n=_;rw[Ss,PQ,Sr];rfl
 have k:R.rg.t2 R.n=R.c2:=by
  show Md.pr R.s R.rg.b1 R.n=_;rw[PQ];rfl
 rw[ev,e,k,e_d,e_a,e_b]at h;have d:R.t1*R.x+R.t2*(R.x*R.x)+R.z*R.z*R.k=R.tau:=by
  show _=R.t1*R.x+R.t2*R.x*R.x+R.z*R.z*R.k;grind
 rw[show R.rg.x=R.x from rfl,show R.rg.z=R.z from rfl,d]at h;exact h
theorem point(b:IsP N)(c:R.y.val≠0):
 D.ad (D.ad (D.ad (D.ad (R.pA D G g k) (D.ac R.x (R.pS D G g k))) (D.ac (-1) (D.ac R.mu G))) (D.ad (D.dt (λ_=>-R.z) g R.n) (D.dt R.sh (R.hh D k) R.n))) (D.ac R.t (D.ac R.w U))=D.hd R.a R.b g (R.hh D k) (D.ac R.w U) R.n:=by
 rw[D.Gx];have h:=D.B8 R.rg R.n (IB R.v R.s R.q R.z R.x (sM b R.y c) R.n) G g k U R.al R.rho R.w;have d:=D.Ir (pwF R.y) (pwF (ivF R.y)) (pwF (ofF N 2)) R.z k R.n λi _=>Ds (sM b R.y c) i
 rw[e_a,e_b]at h;rw[show D.dt R.sh (R.hh D k) R.n=_ from d];exact h
end Rv
end
section
open Go.Shelf
section
variable {P:VC}{ops:Array Vj}{rest:List Vj}{op:Vj}{a:Act}{w w':Uq}{v:Us}{Q:Yo->Act->Uq->Prop}
theorem wpList_build(b:op.guard=none)(e:U7)(n:Nat)(k:Array (Nat × XF))(_:op.op=.buildSlice e n k)(d:(U4 a.eval op).run P w=.ok (.value v) w')(h:wpList P ops Q rest (a.put op.dst v) w'):wpList P ops Q (op :: rest) a w:=
 Xf b λK c=>by
  unfold VS;rw[d];exact c _ _ h
end
variable {P:Nat}[NeZero P]
def iE:ByteArray:=⟨#[118,97,108,117,101]⟩
noncomputable def cmt (P:Nat) [NeZero P] (n m:Nat):EC.Pt P:=tot (λj=>if j=0 then .some (hpt P iE []) else gG P) 2 (λj=>if j=0 then(n:Int) else(m:Int))
def Bt(P:Nat)[NeZero P](N:Nat)(w:Uq)(k b:Bs)(e:Us)(w':Uq):Prop:=match rq N k,rq N b with
 | some n,some m=>Hb w (wr (cmt P n m)) e w'
 | _,_=>Kv 3 e
theorem Lg{w:Uq}{v b:Us}{e k:Bs}(T:U7)(h:Arg w v e)(f:Arg w b k):vT (w.alloc (.cells #[v,b] T)) (some (aZ w.heap.size)) 2 (λj=>if j=0 then e else k):=λ_ =>
 ⟨w.heap.size,rfl,by rw[UA];omega,λj g=>by
  have d:=(Made.alloc w [v,b] T).range;have c:j=0\/j=1:=oM;rcases c with rfl|rfl
  ·exact⟨v,d 0 _ rfl,h.below (aC w _)⟩
  ·exact⟨b,d 1 _ rfl,f.below (aC w _)⟩⟩
theorem I2(w:Uq):PartOk w (.slice none 0 0) []:=⟨none,0,0,0,#[],rfl,rfl,Uv _,dC,U3 rfl⟩
theorem zQ(q:Fin P × Fin P):Pair q.1 q.2 (.some q:EC.Pt P):=⟨rfl,rfl⟩
theorem PZ(C : Fld P){n m : Nat}(hn : n < top)(hm : m < top){ns : Nat -> Nat}{xs ys : Nat -> Fin P}(h0 : ns 0 = n)(h1 : ns 1 = m)(hx0 : xs 0 = (hpt P iE []).1)(hy0 : ys 0 = (hpt P iE []).2)(hx1 : xs 1 = gX P)(hy1 : ys 1 = gY P):
    tD (ptP (iH ns xs ys 2 257)).1 (ptP (iH ns xs ys 2 257)).2 = wr (cmt P n m) := by
  have hJ := BE C (N := 2) (ns := ns) (xs := xs) (ys := ys) (p := λj => if j = 0 then(.some (hpt P iE []) : EC.Pt P) else gG P)
    (fun j hj => by have : j = 0 ∨ j = 1 := oM
                    rcases this with rfl | rfl
                    · rw [h0]; exact hn
                    · rw [h1]; exact hm)
    (fun j hj => by have : j = 0 ∨ j = 1 := oM
                    rcases this with rfl | rfl
                    · rw [hx0, hy0]; exact zQ _
                    · rw [hx1, hy1]; exact zQ (gX P, gY P))
    (fun j hj => by have : j = 0 ∨ j = 1 := oM
                    rcases this with rfl | rfl
                    · exact AY C _ _
                    · exact Cr C)
  have e1 := vM C (hJ.pair C) hJ.2;have e2 : tot (λj => if j = 0 then(.some (hpt P iE []) : EC.Pt P) else gG P) 2 (λj => (ns j : Int)) = cmt P n m := eJ 2 λj hj => by
    have : j = 0 \/ j = 1 := oM;rcases this with rfl | rfl
    · rw [h0]; rfl
    · rw [h1]; rfl
  rw [e2]at e1;exact e1
theorem CX{N:Nat}(C:Fld P)(hG:Gap 4624529908474429119 4994812053365940164 1 N)(hN:N<=top)(v0 v1:Us)(A G:Bs)(w:Uq)(h0:Arg w v0 A)(h1:Arg w v1 G):
 UG prog 11 #[v0,v1] w (rZ w λe w'=>Bt P N w A G e w'):=by
 have hA:=Lg 23 h0 h1;obtain⟨p0,n0,c0,rfl,-,-⟩:=h0;obtain⟨p1,n1,c1,rfl,-,-⟩:=h1;have F:=Ob hG 2 2 dC _ _ _ hA;clear hA;go_enter func11,ntmps11;go_wp2_with fail
 refine F.mono ?_;rintro e b ⟨v,rfl,B,⟨k,h5,X,rfl,a⟩|⟨⟨j,U,c⟩,rfl⟩⟩
 ·obtain⟨n,hn,h2⟩:=a 0 dC;obtain⟨m,hm,W⟩:=a 1 dC;clear a F;have HB:Hid (kZ w b):=(aC w _).trans (B.mono (by rw[UA];omega));have Q:Hid (k<b.heap.size/\b.rangeAt k (4*0) (wn n)/\b.rangeAt k (4*1) (wn m)):=⟨X,h2,W⟩
  have R:Hid (rq N A=some n/\rq N G=some m):=⟨hn,hm⟩
  clear B h5 X h2 W hn hm;go_wp2_with fail
  refine(wV iE none 0 0 b).mono ?_;rintro e w2 ⟨v,rfl,rfl,rfl⟩;have hF:=Ae C iE none 0 0 [] b dC (I2 b);obtain⟨q,hq⟩:∃q,Hid (hpt P iE []=q):=⟨_,rfl⟩
  rw[hq.out]at hF;obtain⟨x,y⟩:=q;obtain⟨gx,V⟩:∃gx,Hid (gX P=gx):=⟨_,rfl⟩
  obtain⟨p,h3⟩:∃p,Hid (gY P=p):=⟨_,rfl⟩
  have D:=Eg C;rw[V.out,h3.out]at D;obtain⟨v4,I⟩:∃v4,Hid (pv x y=v4):=⟨_,rfl⟩
  obtain⟨v5,L⟩:∃v5,Hid (pv gx p=v5):=⟨_,rfl⟩
  replace hF:UG prog 49 #[.func (.func 112) #[] #[jZ b.heap.size,.pointer (some ⟨b.heap.size+1,0,none⟩)]] ((b.alloc (.cells #[.string iE] 9)).alloc (.cells #[.slice none 0 0] 23)) (rZ b λe w'=>e=v4):=by rw[<-I.out];exact hF
  rw[L.out]at D;go_wp2_with fail
  refine hF.mono ?_;rintro e w3 ⟨v,rfl,t,rfl⟩;have M:Hid (kZ w w3):=HB.out.trans (t.mono HB.out.size);have l:Hid (k<w3.heap.size/\w3.rangeAt k (4*0) (wn n)/\w3.rangeAt k (4*1) (wn m)):=⟨Uw Q.out.1 t.size,RG.range_below Q.out.2.1 t Q.out.1,RG.range_below Q.out.2.2 t Q.out.1⟩
  clear hF t HB Q;go_wp2_with fail
  refine(D _).mono ?_;rintro e o ⟨v,rfl,u,rfl⟩;have J:Hid (kZ w o):=M.out.trans (u.mono M.out.size);have f:Hid (k<o.heap.size/\o.rangeAt k (4*0) (wn n)/\o.rangeAt k (4*1) (wn m)):=⟨Uw l.out.1 u.size,RG.range_below l.out.2.1 u l.out.1,RG.range_below l.out.2.2 u l.out.1⟩
  clear D u M l;obtain⟨d,O⟩:∃d,Hid (o.alloc (.cells ((ws x++ws y)++(ws gx++ws p)).toArray 93)=d):=⟨_,rfl⟩
  go_wp2_with (refine wpList_build (v:=sZ o.heap.size 2 2) (w':=d) rfl 100 2 _ rfl ?_ ?_;rw[<-O.out,<-I.out,<-L.out];kernel_rfl;refine Hid.out ?_)
  have H:Hid (kZ w d/\k<d.heap.size/\o.heap.size<d.heap.size/\(∀i,i<2->d.rangeAt k (4*i) (wn (if i=0 then n else m)))/\∀i,i<2->d.rangeAt o.heap.size (8*i) (ws (if i=0 then x else gx)++ws (if i=0 then y else p))):=by
   have r:=Made.alloc o ((ws x++ws y)++(ws gx++ws p)) 93;have S:o.alloc (.cells ((ws x++ws y)++(ws gx++ws p)).toArray 93)=d:=O.out;rw[S]at r;refine⟨J.out.trans (r.bel.mono J.out.size),Uw f.out.1 r.bel.size,r.lt,λi K=>?_,λi K=>?_⟩
   ·have:i=0\/i=1:=oM;rcases this with rfl|rfl
    ·exact RG.range_below f.out.2.1 r.bel f.out.1
    ·exact RG.range_below f.out.2.2 r.bel f.out.1
   ·have:i=0\/i=1:=oM;rcases this with rfl|rfl
    ·intro j v U;have E:j<8:=(UE.1 U).1;have:=r.range j v (by rw[List.getElem?_append_left (show j<(ws x++ws y).length from E)];exact U);exact this
    ·intro j v U;have:=r.range (8+j) v (by rw[List.getElem?_append_right (show(ws x++ws y).length<=8+j from Nat.le_add_right 8 j),show 8+j-(ws x++ws y).length=j from Nat.add_sub_cancel_left 8 j];exact U);rw[UC]at this;exact this
  clear O J f I L;show wpList _ _ _ _ _ _;have F:UG prog 48 #[sZ k 2 2,sZ o.heap.size 2 2] d (rZ d λe w'=>e=pv (ptP (iH (λi=>if i=0 then n else m) (λi=>if i=0 then x else gx) (λi=>if i=0 then y else p) 2 257)).1 (ptP (iH (λi=>if i=0 then n else m) (λi=>if i=0 then x else gx) (λi=>if i=0 then y else p) 2 257)).2):=by
   refine(H9 C 2 dC (λi=>if i=0 then n else m) (λi=>if i=0 then x else gx) (λi=>if i=0 then y else p) (λi K=>?_) k o.heap.size d H.out.2.1 H.out.2.2.1 H.out.2.2.2.1 H.out.2.2.2.2).mono ?_
   ·have:i=0\/i=1:=oM;rcases this with rfl|rfl
    ·exact wN hN R.out.1
    ·exact wN hN R.out.2
   ·rintro e w' ⟨v,rfl,r,s,rfl,rfl⟩;exact⟨_,rfl,r,rfl⟩
  have hW:=PZ C (n:=n) (m:=m) (wN hN R.out.1) (wN hN R.out.2) (ns:=λi=>if i=0 then n else m) (xs:=λi=>if i=0 then x else gx) (ys:=λi=>if i=0 then y else p) rfl rfl (by rw[hq.out];rfl) (by rw[hq.out];rfl) (by rw[V.out];rfl) (by rw[h3.out];rfl);generalize ptP (iH (λi=>if i=0 then n else m) (λi=>if i=0 then x else gx) (λi=>if i=0 then y else p) 2 257)=z at F hW;have E:∀w,UG prog 52 #[pv z.1 z.2] w (rZ w λe w'=>mL w (tD z.1 z.2) e w'):=vK C _ _;rw[hW]at E;clear hW;generalize pv z.1 z.2=v6 at F E;go_wp2_with fail
  refine F.mono ?_;rintro e w6 ⟨v,rfl,Y,rfl⟩;have K:Hid (kZ w w6):=H.out.1.trans (Y.mono H.out.1.size);clear Y H F;go_wp2_with fail
  refine(E _).mono ?_;rintro e w7 ⟨v,rfl,Z,g,r,rfl,h6,h4,S,T⟩;have h7:Hid (kZ w w7):=K.out.trans (Z.mono K.out.size);have HO:Hid (Bt P N w A G (.tuple #[sZ g 33 r,iZ 0]) w7):=by
   show Bt P N w A G (.tuple #[sZ g 33 r,iZ 0]) w7;unfold Bt;rw[R.out.1,R.out.2];exact⟨g,r,rfl,h6,UB K.out.size h4,S,T⟩
  clear Z T E;go_wp2
  go_ret2
  exact⟨_,rfl,h7.out,HO.out⟩
 ·have HB:Hid (kZ w b):=(aC w _).trans (B.mono (by rw[UA];omega));have HO:Hid (Bt P N w A G (.tuple #[.slice none 0 0,iZ 3]) b):=by
   show Bt P N w A G (.tuple #[.slice none 0 0,iZ 3]) b;unfold Bt;have:j=0\/j=1:=oM;rcases this with rfl|rfl
   ·have c:rq N A=none:=c;rw[c];rfl
   ·have c:rq N G=none:=c;rw[c];cases rq N A<;>rfl
  clear B c F;go_wp2
  go_ret2
  exact⟨_,rfl,HB.out,HO.out⟩
end
section
variable {P:Nat}[NeZero P]{N:Nat}
theorem kJ(O:Ord N){n:Nat}(k:n<N):rq N (bx n)=some n:=by
 have hv:beV (bx n).toList=n:=Bm (Uw k O.le);unfold rq;rw[hv,yCj ⟨eE n,k⟩]
def Ez(W:Uq)(v:Us)(T:Bs):Prop:=∃g c,v=sZ g 33 c/\33<=c/\g<W.heap.size/\Holds encB W g 0 T
theorem Ez.grow{W W':Uq}{v:Us}{T:Bs}(h:Ez W v T)(k:kZ W W'):Ez W' v T:=by
 obtain⟨g,c,e,d,b,f⟩:=h;exact⟨g,c,e,d,Uw b k.size,Holds.below f k b⟩
def Et(W:Uq)(v:Us)(T:Bs):Prop:=∃u,v=.tuple #[u,iZ 0]/\Ez W u T
section
variable (w:Uq) (k2 k3 k4 a b:Nat) (T:Bs)
def RC1:Nat->Us->Uq->Prop
 | 0,v,_=>v=nv a
 | 1,v,W=>El 32 W v (bx a)
 | 2,v,_=>v=nv b
 | 3,v,W=>El 32 W v (bx b)
 | 4,v,W=>Et W v T
 | 5,v,W=>Et W v T
 | 6,v,W=>Ez W v T
 | 7,v,_=>v=iZ 0
 | 8,v,W=>Ez W v T
 | 9,v,_=>v=iZ 0
 | _,_,_=>True
def GC1:Gw:=⟨RC1 a b T,λW=>Kp w W [(k4,z33),(k3,wn b),(k2,wn a)],λi v W W' k h=>by
 match i,h with
 | 0,h=>exact h
 | 1,h=>exact El.below h k (Uv _)
 | 2,h=>exact h
 | 3,h=>exact El.below h k (Uv _)
 | 4,h=>obtain⟨u,d,c⟩:=h;exact⟨u,d,c.grow k⟩
 | 5,h=>obtain⟨u,d,c⟩:=h;exact⟨u,d,c.grow k⟩
 | 6,h=>exact Ez.grow h k
 | 7,h=>exact h
 | 8,h=>exact Ez.grow h k
 | 9,h=>exact h
 | _+10,_=>trivial,λW W' k h=>h.grow k⟩
end
theorem oL(C:Fld P)(O:Ord N){a b:Nat}(K:a<N)(L:b<N):Gives 69 #[nv a,nv b] (pvl (wr (cmt P a b))):=by
 intro w;obtain⟨T,F⟩:∃T,Hid (wr (cmt P a b)=T):=⟨_,rfl⟩
 have M:T.size=33:=by rw[<-F.out];exact aT _
 have A:Hid (Ord N/\a<N/\b<N):=⟨O,K,L⟩
 have HC:Hid (∀(v0 v1:Us) (W:Uq),El 32 W v0 (bx a)->El 32 W v1 (bx b)->UG prog 11 #[v0,v1] W (rZ W λe w'=>Et w' e T)):=λv0 v1 W h0 h1=>by
  refine(CX (N:=N) C O.gap O.le v0 v1 (bx a) (bx b) W h0.arg h1.arg).mono ?_;rintro e W' ⟨u,rfl,k,hR⟩;unfold Bt at hR;rw[kJ O K,kJ O L]at hR;obtain⟨g,c,rfl,p,r,o,f⟩:=hR;rw[F.out]at f;exact⟨_,rfl,k,_,rfl,g,c,rfl,p,o,f⟩
 rw[F.out];clear C O F K L;obtain⟨va,E⟩:∃v,Hid (nv a=v):=⟨_,rfl⟩
 obtain⟨vb,D⟩:∃v,Hid (nv b=v):=⟨_,rfl⟩
 have Q:=boxS a w;obtain⟨j,l⟩:∃j,Hid (w.alloc (.cells (wn a).toArray 49)=j):=⟨_,rfl⟩
 have J:=boxS b j;obtain⟨i,n⟩:∃i,Hid (j.alloc (.cells (wn b).toArray 49)=i):=⟨_,rfl⟩
 obtain⟨m,f⟩:∃m,Hid (i.alloc (.cells z33.toArray 103)=m):=⟨_,rfl⟩
 rw[E.out,l.out]at Q;rw[D.out,n.out]at J;rw[E.out,D.out];have G:j.heap.size=w.heap.size+1:=by rw[<-l.out,UA]
 have R:i.heap.size=w.heap.size+2:=by rw[<-n.out,UA,G]
 rw[G]at J;have q:Hid (Kp w m [(w.heap.size+2,z33),(w.heap.size+1,wn b),(w.heap.size,wn a)]):=by
  have p:Row j w.heap.size (wn a):=by rw[<-l.out];exact aE w _ _
  have r:Row i (w.heap.size+1) (wn b):=by rw[<-n.out,<-G];exact aE j _ _
  have o:Row m (w.heap.size+2) z33:=by rw[<-f.out,<-R];exact aE i _ _
  have b1:kZ w j:=by rw[<-l.out];exact aC w _
  have s:kZ j i:=by rw[<-n.out];exact aC j _
  have k:kZ i m:=by rw[<-f.out];exact aC i _
  refine⟨(b1.trans (s.mono oM)).trans (k.mono oM),λx hx=>?_⟩;simp only[VW,UX,or_false]at hx;rcases hx with rfl|rfl|rfl
  ·exact o
  ·exact r.below k
  ·exact(p.below s).below k
 have X:=Hid.mk' Q;have BB:=Hid.mk' J;have Z:=Hid.mk' R;clear Q J G R;go_enter func69,ntmps69;go_wp2_with (first|(refine aF (u:=va) (v:=jZ w.heap.size) (w':=j) rfl 49 (.tmp 0) rfl ?_ ?_ ?_;rfl;exact X.out)|(refine aF (u:=vb) (v:=.pointer (some ⟨w.heap.size+1,0,none⟩)) (w':=i) rfl 49 (.tmp 1) rfl ?_ ?_ ?_;rfl;exact BB.out)|(refine bG (v:=.pointer (some ⟨w.heap.size+2,0,none⟩)) (w:=i) (w':=m) rfl (.alloc 103) rfl ?_ ?_;(rw[<-f.out,<-Z.out];kernel_rfl))|fail)
 clear X BB l n f Z;refine(GC1 w w.heap.size (w.heap.size+1) (w.heap.size+2) a b T).draws kR kR ⟨
  iQ 49 2 rfl u40 λx W k=>⟨w.heap.size,0,wn a,k.o 2 kR,(k.b.at 2 rfl).2.1,i40,rfl⟩,
  gK λx W k=>⟨[(8,nv a)],141,#[nv a],⟨k.n 0 8 kR kR,yCl⟩,kR,by
   refine(qO A.out.1 A.out.2.1 W).mono ?_;rintro e W' ⟨u,rfl,p,o,rfl⟩;exact⟨_,rfl,o.bel,El.of_made o (eE a)⟩⟩,
  iQ 49 3 rfl u40 λx W k=>⟨w.heap.size+1,0,wn b,k.o 3 kR,(k.b.at 1 rfl).2.1,i40,rfl⟩,
  gK λx W k=>⟨[(10,nv b)],141,#[nv b],⟨k.n 2 10 kR kR,yCl⟩,kR,by
   refine(qO A.out.1 A.out.2.2 W).mono ?_;rintro e W' ⟨u,rfl,p,o,rfl⟩;exact⟨_,rfl,o.bel,El.of_made o (eE b)⟩⟩,
  gK λx W k=>⟨[(9,x.eval (.tmp 9)),(11,x.eval (.tmp 11))],11,#[x.eval (.tmp 9),x.eval (.tmp 11)],⟨rfl,rfl,yCl⟩,kR,HC.out _ _ W (k.n 1 9 kR kR) (k.n 3 11 kR kR)⟩,
  bN λx W k=>⟨[(12,x.eval (.tmp 12))],x.eval (.tmp 12),W,⟨rfl,yCl⟩,kR,UQ _ _,k.n 4 12 kR kR⟩,
  bN λx W k=>by
   obtain⟨u,o,p⟩:=show Et W (x.eval (.tmp 7)) T from k.n 5 7 kR kR
   exact⟨[(7,.tuple #[u,iZ 0])],u,W,⟨o,yCl⟩,kR,UQ _ _,p⟩,
  bN λx W k=>by
   obtain⟨u,o,p⟩:=show Et W (x.eval (.tmp 7)) T from k.n 5 7 kR kR
   exact⟨[(7,.tuple #[u,iZ 0])],iZ 0,W,⟨o,yCl⟩,kR,UQ _ _,rfl⟩,
  bN λx W k=>⟨[(13,x.eval (.tmp 13))],x.eval (.tmp 13),W,⟨rfl,yCl⟩,kR,UQ _ _,k.n 6 13 kR kR⟩,
  bN λx W k=>⟨[(14,iZ 0)],iZ 0,W,⟨k.n 7 14 kR kR,yCl⟩,kR,UQ _ _,rfl⟩,yCl⟩ q.out.drew ?_
 intro V o s y;obtain⟨g,cg,t,-,S,U⟩:=show Ez o (V 8) T from s 8 (Nat.lt_of_succ_le (Nat.le_of_ble_eq_true kR))
 have p:Kp w o [(w.heap.size+2,z33),(w.heap.size+1,wn b),(w.heap.size,wn a)]:=y;have I:Hid (Row o (w.heap.size+2) z33/\kZ w o/\Row o g (aA T)):=⟨p.at 0 rfl,p.bl,pW U S⟩
 dsimp only[bU,VJ];simp only[UM,Ur,Ut,Uu];rw[t];clear s y t p q S U A HC;have Y:=FU g cg;obtain⟨m,f⟩:∃m,Hid (o.setCells (w.heap.size+2) 0 (aA T)=m):=⟨_,rfl⟩
 have k:(aA T).length=33:=aB M;have q:Hid (Row m (w.heap.size+2) (aA T)/\kZ w m):=by rw[<-f.out];exact⟨I.out.1.put (by rw[k];rfl),RG.below_setCells oM _ _ _ I.out.2.1⟩
 obtain⟨vt,r⟩:∃vt,Hid (U2 (aA T).toArray=vt):=⟨_,rfl⟩
 obtain⟨d,B,z⟩:=Ux.1 uCP;have HD:Hid (prog.underlying 103=some d/\d.isRow=true):=⟨B,z⟩
 have H:Hid ((prog.info? 103).map (·.size)=some (aA T).length/\o.there (w.heap.size+2) 0 (aA T).toArray.size/\(prog.info? 103).map (·.size)=some (aA T).toArray.size):=by
  have e:(aA T).toArray.size=33:=by rw[VB];exact k
  refine⟨by rw[k];exact cV,by rw[e];exact I.out.1.2.2,by rw[e];exact cV⟩
 clear k B z;generalize V 0=s0;generalize V 1=s1;generalize V 2=s2;generalize V 3=s3;generalize V 4=s4;generalize V 5=s5;generalize V 6=s6;generalize V 7=s7;generalize V 9=s9;go_wp2_with (first|(refine U5 rfl 103 _ rfl g 0 ?_ (aA T) d ?_ ?_ ?_ ?_ ?_;rfl;exact I.out.2.2.2.1;exact HD.out.1;exact HD.out.2;exact H.out.1;rw[r.out])|(refine U1 rfl 103 _ _ rfl (w.heap.size+2) 0 (aA T).toArray ?_ ?_ ?_ ?_ ?_ ?_;rfl;exact r.out.symm;exact H.out.2.1;exact H.out.2.2;exact bW T;rw[show(aA T).toArray.toList=aA T from rfl,f.out])|fail)
 refine UD (aG 4 103 rfl q.out.1 rfl uCP H.out.1) rfl ?_;exact⟨_,rfl,q.out.2,rfl⟩
end
section
open Go.Shelf
attribute [local go_sem] Zd
end
section
open Go.Shelf
attribute [local go_sem] Zd
end
section
variable {P:Nat}[NeZero P]{N:Nat}
def zz(n:Nat):List Us:=(VA n (Value.int .u8 0))
def o33:Bs:=UI 33 0
theorem Mw:(.agg z33.toArray:Us)=pvl o33:=by
 unfold pvl z33 o33 aA;rw[Y3,List.map_replicate];rfl
theorem Sm.mono{B k:Nat}{W:Uq}{v:Us}{l:List (Nat × Bs)}(h:Sm B W v l)(d:k<=B):Sm k W v l:=by
 obtain⟨g,c,e,b,i,f⟩:=h;exact⟨g,c,e,b,UB d i,f⟩
section
variable (w:Uq) (k6 k8 n:Nat) (Y A T:Bs)
def Rb:Nat->Us->Uq->Prop
 | 0,v,_=>v=pvl Y
 | 1,v,W=>Sm w.heap.size W v [(1,Y)]
 | 2,v,_=>v=pvl A
 | 3,v,_=>v=nv n
 | 4,v,W=>Sm w.heap.size W v [(n,A)]
 | 5,v,W=>Sm w.heap.size W v [(1,Y),(n,A)]
 | 6,v,_=>v=pvl T
 | 7,v,W=>El 33 W v T
 | 8,v,W=>El 33 W v T
 | 9,v,_=>v=iZ 0
 | _,_,_=>True
def Gb:Gw:=⟨Rb w n Y A T,λW=>Kp w W [(k8,wn n),(k6,aA Y)],λi v W W' k h=>by
 match i,h with
 | 0,h=>exact h
 | 1,h=>exact Sm.grow h k
 | 2,h=>exact h
 | 3,h=>exact h
 | 4,h=>exact Sm.grow h k
 | 5,h=>exact Sm.grow h k
 | 6,h=>exact h
 | 7,h=>exact El.below h k (Uv _)
 | 8,h=>exact El.below h k (Uv _)
 | 9,h=>exact h
 | _+10,_=>trivial,λW W' k h=>h.grow k⟩
end
theorem CM(x:UInt8)(r:List UInt8):beV (x :: r)=x.toNat*256^r.length+beV r:=by
 have h:=jP [x] r;rw[show [x]++r=x :: r from rfl]at h;rw[h];simp[beV]
end
section
theorem FN:∀(l r:List UInt8),l.length=r.length->beV l=beV r->l=r
 | [],[],_,_=>rfl
 | x :: l,y :: r,hl,h=>by
  have k:l.length=r.length:=Nat.succ.inj hl;rw[CM,CM,k]at h;have b1:=Ef l;have d:=Ef r;rw[k]at b1;have b:0<256^r.length:=XH dC;have f:(x.toNat*256^r.length+beV l)/256^r.length=x.toNat:=by
   rw[Vu,yBl b,Xd b1,XA]
  have c:(y.toNat*256^r.length+beV r)/256^r.length=y.toNat:=by
   rw[Vu,yBl b,Xd d,XA]
  have e3:x.toNat=y.toNat:=by rw[<-f,<-c,h]
  have e:=UInt8.toNat_inj.1 e3;subst e;rw[FN l r k oM]
theorem SC{b:Bs}(c:b.size=32){n:Nat}(k:n<top)(h:beV b.toList=n):bx n=b:=by
 have:=FN (bx n).toList b.toList (by rw[UJ,UJ,eE,c]) (by rw[Bm k,h]);exact Array.toList_inj.1 this
variable {P:Nat}[NeZero P]
end
section
variable {P:Nat}[NeZero P]{N:Nat}
theorem wH(O:Ord N)(B:Nat)(s t:Us)(l m:List (Nat × Bs))(q:0<l.length)(Q:l.length<=500)(U:m.length<=500)(D:∀x∈l,x.2.size=33)(d:∀x∈m,x.2.size=33)(p:∀x∈m,x.1<N)(w:Uq)(R:B<=w.heap.size)(I:Sm B w s l)(G:Sm B w t m):
 UG prog 194 #[s,t] w (rZ w λe w'=>Sm w.heap.size w' e (l++m.map (tmT N (sMi N 0 1)))):=by
 have z:1<N:=by have:2<=N:=UB O.n2 (Nat.mod_le _ _);omega
 have k:=Hid.mk' (IU O z);have b:sMi N 0 1<N:=V4 _ O.pos;generalize sMi N 0 1=o at k b⊢;have E:Hid (∀W,kZ w W->UG prog 164 #[t,nv o] W (rZ W λe w'=>Sm W.heap.size w' e (m.map (tmT N o)))):=λW u=>by
  have f:∀x∈m.map (·.2),x.size=33:=λx hx=>by obtain⟨y,c,rfl⟩:=Vm.1 hx;exact d y c
  exact eG O b B t m oM f p W (G.grow u)
 have V:Hid (∀W v,kZ w W->Sm w.heap.size W v (m.map (tmT N o))->UG prog 65 #[s,v] W (rZ W λe w'=>Sm W.heap.size w' e (l++m.map (tmT N o)))):=λW v u hv=>by
  refine rT B s v l (m.map (tmT N o)) q Q (by rw[UP];exact U) D (λx hx=>?_) W (I.grow u) (hv.mono R);obtain⟨y,c,rfl⟩:=Vm.1 hx;exact d y c
 obtain⟨gs,cs,L,-⟩:=id I;obtain⟨X,Z,T,-⟩:=id G;subst L;subst T;obtain⟨v1,f⟩:=hE (nv 1);obtain⟨vo,g⟩:=hE (nv o);rw[f.out,g.out]at k;rw[g.out]at E;have H:=Hid.mk' (IX);rw[f.out]at H;go_enter func194,ntmps194;go_wp2_with fail
 refine(H w).mono ?_;rintro e M ⟨K,rfl,i,rfl⟩;go_wp2_with fail
 refine(k M).mono ?_;rintro e S ⟨K,rfl,a,rfl⟩;have j:=mk1 (i.trans (a.mono i.size));go_wp2_with fail
 refine(E S j.out).mono ?_;rintro e P ⟨J,rfl,A,n⟩;have c:=mk2 (j.trans (A.mono j.size)) (n.mono j.size);go_wp2_with fail
 refine(V P J c.1 c.2).mono ?_;rintro e Y ⟨v4,rfl,C,r⟩;have F:=mk2 (c.1.trans (C.mono c.1.size)) (r.mono c.1.size);go_wp2;go_ret;exact⟨_,rfl,F.1,F.2⟩
def encV(v:Us):Us:=v
omit [NeZero P] in
theorem KO:(wr (none:EC.Pt P))=o33:=by
 show He=o33;decide +kernel
theorem Kg(q:Option Wt)(c:Nat)(w:Uq):UG prog 120 #[.func (.func 53) #[] #[],.slice q 0 c] w (rZ w λe w'=>∃K,e=.tuple #[sZ K 0 0,.bool true]):=by
 obtain⟨C0,g,d⟩:=Ru 0 dC;have k:(Instr.makeSlice 200 (iZ 0) (iZ 0)).run prog w=.ok (sZ w.heap.size 0 0) (w.alloc (.cells C0.toArray 103)):=d w;obtain⟨f,b⟩:∃f,Hid (w.alloc (.cells C0.toArray 103)=f):=⟨_,rfl⟩
 rw[b.out]at k;have i:Hid (kZ w f):=by rw[<-b.out];exact aC _ _
 clear d g b;go_enter func120,ntmps120;go_wp2;clear k;go_loopg [16] 0 (λm s16 W=>s16=iZ 0/\Hid (kZ w W))
 case atStart=>exact⟨rfl,i.out⟩
 case round =>
  obtain⟨rfl,j⟩:=hrel;go_wp2
  go_ret2
  exact⟨_,rfl,j.out,_,rfl⟩
end
section
open SPA
variable {P:Nat}[NeZero P]{N:Nat}[NeZero N]
theorem S3(g j:Nat):(⟨g,0,none⟩:Wt).add j=⟨g,j,none⟩:=by
 simp[Addr.add];exact λh=>h.symm
theorem zU{W:Uq}{k n g c:Nat}{e:U7}{xs:List Us}(h:W.ownsRow k e 1 (sZ g n c) n xs){j:Nat}{u:Us}(b:xs[j]? = some u):W.cell? ⟨g,j,none⟩=some u:=by
 have:=h.cells (g:=g) rfl j u b;rw[S3]at this;exact this
theorem wW{W:Uq}{k n:Nat}{e:U7}{v:Us}{xs:List Us}(h:W.ownsRow k e 1 v n xs)(b:0<n):∃g c,v=sZ g n c:=by
 rcases h with⟨-,⟨-,d⟩|⟨g,cap,cur,rfl,-⟩⟩
 ·omega
 ·exact⟨g,cap,rfl⟩
def PtL(Q:Nat->Prop)(W:Uq)(K t:Nat)(B:Nat->Bs):Prop:=∀j,j<t->Q K/\K<W.heap.size/\W.rangeAt K (33*j) (aA (B j))
theorem PtL.keep{Q:Nat->Prop}{W W':Uq}{K t:Nat}{B:Nat->Bs}(h:PtL Q W K t B)(k:Kq Q W W'):PtL Q W' K t B:=λj e=>by
 obtain⟨c,b,f⟩:=h j e;refine⟨c,Uw b k.size,λi u d=>?_⟩;rw[UV (a:=⟨K,33*j+i,none⟩) (k.block K c b)];exact f i u d
theorem PtL.mono2{Q Q':Nat->Prop}{W:Uq}{K t:Nat}{B:Nat->Bs}(h:PtL Q W K t B)(b:∀g,g<W.heap.size->Q g->Q' g):PtL Q' W K t B:=λj c=>by
 obtain⟨e,k,d⟩:=h j c;exact⟨b K k e,k,d⟩
theorem TlL.shape{Q:Nat->Prop}{k t:Nat}{W:Uq}{v:Us}{B:Nat->Bs}(h:TlL Q k t W v B):∃q c,v=.slice q t c:=by
 obtain⟨xs,⟨-,⟨rfl,b⟩|⟨g,cap,cur,rfl,-⟩⟩,-⟩:=h.ex
 ·exact⟨none,0,by rw[b]⟩
 ·exact⟨_,_,rfl⟩
theorem TlL.below{Q:Nat->Prop}{k t:Nat}{W W':Uq}{v:Us}{B:Nat->Bs}(h:TlL Q k t W v B)(b:kZ W W'):TlL Q k t W' v B:=h.keep (Kq.of_below b) λg c=>b.block g (h.lt c).2
theorem Ke(C:Fld P){Q:Nat->Prop}{b t:Nat}{W:Uq}{v:Us}{B:Nat->Bs}(w:t<=512)(h:TlL Q b t W v B)(s:∀j,j<t->∃p,rd P (B j)=some p):UG prog 120 #[.func (.func 53) #[] #[],v] W (rZ W λe w'=>∃K,e=.tuple #[sZ K t t,.bool true]/\PtL (W.heap.size<=·) w' K t B):=by
 rcases Nat.eq_zero_or_pos t with f|f
 ·obtain⟨q,c,rfl⟩:=h.shape;subst f;refine(Kg q c W).mono ?_;rintro e w' ⟨v,rfl,d,K,rfl⟩;exact⟨_,rfl,d,K,rfl,λj k=>absurd k (Nat.not_lt_zero _)⟩
 ·obtain⟨xs,l,u⟩:=h.ex;obtain⟨g,c,rfl⟩:=wW l f;refine(Kh C g t c w B W (h.lt (g:=g) rfl).2 λj k=>?_).mono ?_
  ·obtain⟨x,m,i⟩:=u j k;exact⟨x,zU l m,i.arg⟩
  ·rintro e w' ⟨v,rfl,d,h⟩;rcases h with⟨-,K,rfl,o,n,m⟩|⟨⟨j,k,i⟩,-⟩
   ·exact⟨_,rfl,d,K,rfl,λj k=>⟨o,n,m j k⟩⟩
   ·obtain⟨p,r⟩:=s j k;rw[r]at i;cases i
theorem ElQ.argS{Q:Nat->Prop}{W:Uq}{x:Us}{b:Bs}(h:ElQ Q 32 W x b):Arg W x b:=by
 obtain⟨k,c,rfl,d,f,-,e,g⟩:=h;exact⟨_,32,c,rfl,f,λ_=>⟨k,0,rfl,d,e,g⟩⟩
def two{α:Type}(x y:α)(j:Nat):α:=if j=0 then x else y
theorem Ub(k d:Nat)(n c e b:Nat)(w:Uq):(Vx 24 2 #[(0,sZ k n c),(1,sZ d e b)]).run prog w=.ok (sZ w.heap.size 2 2) (w.alloc (.cells #[sZ k n c,sZ d e b] 23)):=kR
theorem Ua{Q Q':Nat->Prop}{W:Uq}{x y:Us}{b d:Bs}(h:ElQ Q 32 W x b)(g:ElQ Q' 32 W y d)(w:Uq):(Vx 24 2 #[(0,x),(1,y)]).run prog w=.ok (sZ w.heap.size 2 2) (w.alloc (.cells #[x,y] 23)):=by
 obtain⟨k,c,rfl,-⟩:=h;obtain⟨f,e,rfl,-⟩:=g;exact Ub k f 32 c 32 e w
theorem Ka{Q Q':Nat->Prop}{W:Uq}{x y:Us}{b c:Bs}(h:ElQ Q 32 W x b)(f:ElQ Q' 32 W y c):Args (W.alloc (.cells #[x,y] 23)) (some (aZ W.heap.size)) 2 (two b c):=λ_=>by
 have d:=aC W (.cells #[x,y] 23);have k:=aE W [x,y] 23;refine⟨_,rfl,k.1,λj e=>?_⟩;match j,e with
 | 0,_=>exact⟨x,k.2.1 0 _ rfl,h.argS.below d⟩
 | 1,_=>exact⟨y,k.2.1 1 _ rfl,f.argS.below d⟩
 | j+2,h=>omega
theorem Ug{g p q i:Nat->Prop}{b1 m t:Nat}{W:Uq}{f d b e:Us}{j Rb:Nat->Bs}{A B:Bs}(l:TlL g b1 t W f j)(hR:TlL p m t W d Rb)(n:ElQ q 32 W b A)(o:ElQ i 32 W e B)(w:Uq):(Vd 26 (.agg #[f,d,b,e])).run prog w=.ok (jZ w.heap.size) (w.alloc (.cells #[f,d,b,e] 26)):=by
 obtain⟨r,c1,rfl⟩:=l.shape;obtain⟨v,c2,rfl⟩:=hR.shape;obtain⟨k,c,rfl,-⟩:=n;obtain⟨u,s,rfl,-⟩:=o;kernel_rfl
theorem uIr:(prog.underlying 202).map (·.isRow)=some true:=kR
theorem iIr:(prog.info? 202).map (·.size)=some 10:=kR
def inL(k c t a b:Nat):List Us:=sZ k t t :: sZ c t t :: (wn a++wn b)
def inZ:List Us:=[.slice none 0 0,.slice none 0 0,uZ 0,uZ 0,uZ 0,uZ 0,uZ 0,uZ 0,uZ 0,uZ 0]
theorem E8(k c t a b:Nat):(inL k c t a b).toArray.all (·.oneCell')=true:=kR
omit [NeZero N] in
theorem LU(C:Fld P)(O:Ord N){h1 t:Nat}(ht:t<=6){Lb Rb:Nat->Bs}{A B:Bs}{a b:Nat}{vL vR z D:Us}(w:Uq)(hL:TlL (λ_=>True) h1 t w vL Lb)(hR:TlL (λ_=>True) h1 t w vR Rb)(hA:ElQ (λ_=>True) 32 w z A)(hB:ElQ (λ_=>True) 32 w D B)(hl:∀j,j<t->∃p,rd P (Lb j)=some p)(hr:∀j,j<t->∃p,rd P (Rb j)=some p)(ha:rq N A=some a)(hb:rq N B=some b):
 UG prog 119 #[.agg #[vL,vR,z,D],iZ t] w (rZ w λe w'=>∃q r,e=.tuple #[.agg (inL q r t a b).toArray,.bool true]/\PtL (w.heap.size<=·) w' q t Lb/\PtL (w.heap.size<=·) w' r t Rb):=by
 obtain⟨k,hk⟩:∃k,Hid (w.heap.size=k):=⟨_,rfl⟩
 obtain⟨Q,V⟩:∃Q,Hid (w.alloc (.cells #[vL,vR,z,D] 26)=Q):=⟨_,rfl⟩
 obtain⟨H,h5⟩:∃H,Hid (Q.alloc (.cells inZ.toArray 202)=H):=⟨_,rfl⟩
 obtain⟨vI,hvI⟩:∃v,Hid (U2 #[vL,vR,z,D]=v):=⟨_,rfl⟩
 have B1:Hid ((Vd 26 vI).run prog w=.ok (jZ k) Q):=by rw[<-hvI.out,<-V.out,<-hk.out];exact Ug hL hR hA hB w
 obtain⟨q1,x1,rfl⟩:=hL.shape;obtain⟨q2,x2,rfl⟩:=hR.shape;have z1:Q.heap.size=k+1:=by rw[<-V.out,UA,hk.out]
 have k1:=Hid.mk' z1;have b1:kZ w Q:=by rw[<-V.out];exact aC _ _
 have b2:kZ Q H:=by rw[<-h5.out];exact aC _ _
 have r1:Row Q k [.slice q1 t x1,.slice q2 t x2,z,D]:=by rw[<-V.out,<-hk.out];exact aE w _ _
 have r2:Row H (k+1) inZ:=by rw[<-h5.out,<-z1];exact aE Q _ _
 have hu:=b1.trans (b2.mono b1.size);have he:=Hid.mk' (λ(W:Uq) (S:kZ w W)=>Ke C (v:=.slice q1 t x1) oM (hL.below S) hl);have h9:=Hid.mk' (λ(W:Uq) (S:kZ w W)=>Ke C (v:=.slice q2 t x2) oM (hR.below S) hr);have J:=Hid.mk' (V0 (λ(W:Uq) (S:kZ w W)=>hA.keep (Kq.of_below S)) (λ(W:Uq) (S:kZ w W)=>hB.keep (Kq.of_below S)));have hm:=Hid.mk' (λ(W:Uq) (S:kZ w W)=>Kf O 2 2 dC (some (aZ W.heap.size)) (two A B) (two a b) (W.alloc (.cells #[z,D] 23)) (Ka (J.1 W S) (J.2 W S)) (λj hj=>by
  match j,hj with
  | 0,_=>exact ha
  | 1,_=>exact hb
  | j+2,h=>omega))
 have K2:Hid (Row H (k+1) inZ/\kZ w H/\Row H k [.slice q1 t x1,.slice q2 t x2,z,D]):=⟨r2,hu,r1.below b2⟩
 have c0:H.cell? ⟨k,0,none⟩=some (.slice q1 t x1):=(r1.below b2).2.1 0 _ rfl;have c1:H.cell? ⟨k,1,none⟩=some (.slice q2 t x2):=(r1.below b2).2.1 1 _ rfl;rw[hvI.out];clear b1 b2 r1 r2 hu z1 hL hR hA hB hvI hl hr ha hb;go_enter func119,ntmps119;go_wp2_with (first|(refine aF (u:=vI) (v:=jZ k) (w':=Q) rfl 26 (.tmp 0) rfl ?_ ?_ ?_;rfl;exact B1.out)|(refine fB (v:=.pointer (some ⟨k+1,0,none⟩)) (w':=H) rfl 202 4 rfl rfl ?_ ?_;(rw[<-h5.out,<-k1.out];kernel_rfl))|fail)
 refine(he H K2.2.1).mono ?_;rintro e w3 ⟨uu,rfl,U,q,rfl,hw⟩;have b3:=K2.2.1.trans (U.mono K2.2.1.size);have T:Hid (Row w3 (k+1) inZ/\kZ w w3/\Row w3 k [.slice q1 t x1,.slice q2 t x2,z,D]/\PtL (k+1 < ·) w3 q t Lb):=⟨K2.1.below U,b3,K2.2.2.below U,hw.mono2 λg _ X=>Uw K2.1.1 X⟩
 have hz:w3.cell? ⟨k,1,none⟩=some (.slice q2 t x2):=T.2.2.1.2.1 1 _ rfl;clear U hw b3 K2 c0 c1 he;go_wp2_with fail
 refine(h9 w3 T.2.1).mono ?_;rintro e s ⟨uu,rfl,L,r,rfl,hs⟩;have b4:=T.2.1.trans (L.mono T.2.1.size);have K:Hid (Row s (k+1) inZ/\kZ w s/\Row s k [.slice q1 t x1,.slice q2 t x2,z,D]/\PtL (k+1 < ·) s q t Lb/\PtL (k+1 < ·) s r t Rb):=⟨T.1.below L,b4,T.2.2.1.below L,T.2.2.2.keep (Kq.of_below L),hs.mono2 λg _ X=>Uw T.1.1 X⟩
 have k0:s.cell? ⟨k,2,none⟩=some z:=K.2.2.1.2.1 2 _ rfl;have hy:s.cell? ⟨k,3,none⟩=some D:=K.2.2.1.2.1 3 _ rfl;obtain⟨w5,Z⟩:∃W,Hid (s.alloc (.cells #[z,D] 23)=W):=⟨_,rfl⟩
 obtain⟨k5,hi⟩:∃n,Hid (s.heap.size=n):=⟨_,rfl⟩
 have HS:Hid ((Vx 24 2 #[(0,z),(1,D)]).run prog s=.ok (sZ k5 2 2) w5):=by rw[<-Z.out,<-hi.out];exact Ua (J.1 s K.2.1) (J.2 s K.2.1) s
 have h7:=hm.out s K.2.1;rw[Z.out,hi.out]at h7;have hq:=Hid.mk' h7;have I:kZ s w5:=by rw[<-Z.out];exact aC _ _
 have b5:=K.2.1.trans (I.mono K.2.1.size);have K5:Hid (Row w5 (k+1) inZ/\kZ w w5/\PtL (k+1 < ·) w5 q t Lb/\PtL (k+1 < ·) w5 r t Rb):=⟨K.1.below I,b5,K.2.2.2.1.keep (Kq.of_below I),K.2.2.2.2.keep (Kq.of_below I)⟩
 clear L hs b4 T hz h9 h7 I b5 hm J;go_wp2_with (first|(refine jC (v:=sZ k5 2 2) (w':=w5) rfl 24 2 _ rfl #[(0,z),(1,D)] ?_ ?_ ?_;kernel_rfl;exact HS.out)|fail)
 refine hq.mono ?_;rintro e f ⟨uu,rfl,M,m,rfl,hn⟩;have K6:Hid (Row f (k+1) inZ/\kZ w f/\PtL (k+1 < ·) f q t Lb/\PtL (k+1 < ·) f r t Rb/\SLq (k+1 < ·) f (sZ m 2 2) 2 (two a b)):=⟨K5.1.below M,K5.2.1.trans (M.mono K5.2.1.size),K5.2.2.1.keep (Kq.of_below M),K5.2.2.2.keep (Kq.of_below M),hn.mono λg X=>Uw K5.1.1 X⟩
 have hE:f.rangeAt m 0 (wn a)/\f.rangeAt m 4 (wn b)/\k+1≠m:=by
  obtain⟨g,o,c,e,-,E,-,y⟩:=K6.2.2.2.2;injection e with e1
  injection e1 with e1
  injection e1 with e2 e3
  subst e2 e3;exact⟨y 0 dC,y 1 dC,Nat.ne_of_lt E⟩
 have R:=Hid.mk' hE;clear M hn K5 K hq HS k0 hy Z hE;go_wp2_with fail
 obtain⟨dS,G,F⟩:=Ux.1 rSc;have E:f.drew.rangeAt m 0 (wn a)/\f.drew.rangeAt m 4 (wn b):=⟨R.1,R.2.1⟩
 refine anyS.begin (λ_ W=>W.rangeAt m 0 (wn a)/\W.rangeAt m 4 (wn b)) kR ?_;have Y:∀(p:Nat),Bef (λ_ W=>YS W m 0 (wn a)/\YS W m 4 (wn b)) p f.drew:=λp=>⟨#[],by simp,E⟩
 refine anyS.val (i:=0) (d:=some 57) (x:=sZ q t t) rfl 9 (λ_ _ h=>h) (Y 9) E ?_;simp only[UM,Ur,Ut,Uu];refine anyS.val (i:=1) (d:=some 58) (x:=sZ r t t) rfl 9 (λ_ _ h=>h) (Y 9) E ?_;simp only[UM,Ur,Ut,Uu];refine anyS.val (i:=2) (d:=some 59) (x:=sZ m 2 2) rfl 9 (λ_ _ h=>h) (Y 9) E ?_;simp only[UM,Ur,Ut,Uu];refine anyS.val (i:=3) (d:=some 60) (x:=jZ m) rfl 9 (λ_ _ h=>h) (Y 9) E ?_;simp only[UM,Ur,Ut,Uu];refine anyS.row (i:=4) (d:=some 61) (cs:=wn a) rfl 9 (λ_ _ h=>h) 49 60 m 0 dS rfl G F nSc (λW ⟨l,e,h⟩=>h.1) (Y 9) E ?_;simp only[UM,Ur,Ut,Uu];refine anyS.val (i:=5) (d:=some 62) (x:=sZ m 2 2) rfl 9 (λ_ _ h=>h) (Y 9) E ?_;simp only[UM,Ur,Ut,Uu];refine anyS.val (i:=6) (d:=some 63) (x:=oZ m 4) rfl 9 (λ_ _ h=>h) (Y 9) E ?_;simp only[UM,Ur,Ut,Uu];refine anyS.row (i:=7) (d:=some 64) (cs:=wn b) rfl 9 (λ_ _ h=>h) 49 63 m 4 dS rfl G F nSc (λW ⟨l,e,h⟩=>h.2) (Y 9) E ?_;simp only[UM,Ur,Ut,Uu];clear Y;refine anyS.nxt (i:=8) (d:=some 65) (x:=.agg (inL q r t a b).toArray) rfl E ?_;simp only[UM,Ur,Ut,Uu];have hc:f.drew.there (k+1) 0 10:=K6.1.2.2;have y:∀g,g≠k+1->(f.drew.setCells (k+1) 0 (inL q r t a b)).heap[g]? = f.drew.heap[g]?:=λg h=>aH (k+1) _ 0 f.drew g h
 have S7:(f.drew.setCells (k+1) 0 (inL q r t a b)).rangeAt m 0 (wn a)/\(f.drew.setCells (k+1) 0 (inL q r t a b)).rangeAt m 4 (wn b):=⟨λj u hj=>by rw[UV (a:=⟨m,0+j,none⟩) (y m (YB R.2.2))];exact E.1 j u hj,λj u hj=>by rw[UV (a:=⟨m,4+j,none⟩) (y m (YB R.2.2))];exact E.2 j u hj⟩
 have r6:Row f.drew (k+1) inZ:=K6.1;have r7:Row (f.drew.setCells (k+1) 0 (inL q r t a b)) (k+1) (inL q r t a b):=r6.put rfl;have b7:kZ w (f.drew.setCells (k+1) 0 (inL q r t a b)):=RG.below_setCells (by rw[hk.out];exact Nat.le_succ _) _ _ _ K6.2.1.drew;have h3:Kq (k+1 < ·) f (f.drew.setCells (k+1) 0 (inL q r t a b)):=⟨by rw[setCells_size];exact Uv _,λg X _=>y g (V7 X)⟩
 have h8:=(K6.2.2.1.keep h3).mono2 (Q':=(w.heap.size<=·)) λg _ X=>by rw[hk.out];omega
 have h6:=(K6.2.2.2.1.keep h3).mono2 (Q':=(w.heap.size<=·)) λg _ X=>by rw[hk.out];omega
 refine anyS.sta (i:=9) (d:=none) rfl 202 (.tmp 4) (.tmp 65) rfl (k+1) 0 (inL q r t a b).toArray (E8 q r t a b) hc iIr S7 ?_;simp only[UM,Ur,Ut,Uu];refine anyS.nxt (i:=10) (d:=some 5) (x:=.bool true) rfl S7 ?_;simp only[UM,Ur,Ut,Uu];refine anyS.fin kR ?_ _;intro WZ hp;have h0:WZ=f.drew.setCells (k+1) 0 (inL q r t a b):=hp;rw[<-h0]at r7 b7 h8 h6;have KZ:=Hid.mk' (V0 r7 (V0 b7 (V0 h8 h6)));clear r6 r7 b7 h3 h8 h6 S7 E y hc hp h0 K6 R G F;go_wp2_with fail
 refine UD (qD 4 5 202 rfl KZ.1 rfl rfl uIr iIr) rfl ?_;exact⟨_,rfl,KZ.2.1,q,r,rfl,KZ.2.2.1,KZ.2.2.2⟩
end
section
open SPA
section
variable {P:VC}{ops:Array Vj}{Q:Yo->Act->Uq->Prop}{S:Array Bool->Uq->Prop}
theorem TD(a:Act){d e:WB}(h:d≠e)(v u:Us):(a.put (some d) v).put (some e) u=(a.put (some e) u).put (some d) v:=by
 unfold UM;dsimp only;rw[Z6 _ _ h]
theorem anyS.calal{i j c:Nat}{s l:Vj}{di dj:WB}{f:Xp}{args:Array Us}{obj:Obj}{k:Array Bool}{a:Act}{w:Uq}{I M:Us->Uq->Prop}{F:Us->Nat->Uq->Prop}(u:ops[i]? = some s)(r:ops[j]? = some l)
 (T:UG P f args w (Ret I)) (G:UG P f args (w.alloc obj) (Ret M)) (E:S (k.setIfInBounds j true) (w.alloc obj))
 (U:∀v W',I v W'->S (k.setIfInBounds i true) W'/\S ((k.setIfInBounds i true).setIfInBounds j true) (W'.alloc obj)/\F v W'.heap.size (W'.alloc obj)) (R:∀v W',M v W'->S ((k.setIfInBounds i true).setIfInBounds j true) W'/\F v w.heap.size W')
 (n:∀(b:Act) (W:Uq),(U4 b.eval l).run P W=.ok (.value (jZ W.heap.size)) (W.alloc obj))
 (h:∀v b W',F v b W'->anyS P ops Q S c ((k.setIfInBounds i true).setIfInBounds j true) ((a.put (some di) v).put (some dj) (jZ b)) W')
 (hx:∀W,(U4 a.eval s).run P W=.ok (.enter f args) W:=by intro _;kernel_rfl) (C:∀(b:Nat) (W:Uq),(U4 (a.put (some dj) (jZ b)).eval s).run P W=.ok (.enter f args) W:=by intro _ _;kernel_rfl)
 (y:i≠j:=by decide) (H:di≠dj:=by decide) (N:U6 .any ops k=[i,j]:=by kernel_rfl) (d:U6 .any ops (k.setIfInBounds i true)=[j]:=by kernel_rfl) (x:U6 .any ops (k.setIfInBounds j true)=[i]:=by kernel_rfl)
 (t:s.guard=none:=by rfl) (o:l.guard=none:=by rfl) (p:s.dst=some di:=by kernel_rfl) (m:l.dst=some dj:=by kernel_rfl):anyS P ops Q S (c+2) k a w:=by
 refine⟨λL=>(by rw[N]at L;cases L),λq J=>?_⟩;rw[N]at J;have D:q=i\/q=j:=by simpa using J
 rcases D with rfl|rfl
 ·refine wpOp_step u λK B=>?_
  rw[yCj (bI t _)];unfold VS;rw[hx,WX];refine T.mono ?_;rintro e W' ⟨v,rfl,hR⟩;obtain⟨s1,s2,z⟩:=U v W' hR;refine B _ _ ⟨s1,?_⟩;rw[p];refine anyS.step r d λO g=>?_
  rw[yCj (bI o _)];unfold VS;rw[n];show O (UM _ l.dst _) _;rw[m];exact g.out _ _ s2 (h v _ _ z)
 ·refine wpOp_step r λK B=>?_
  rw[yCj (bI o _)];unfold VS;rw[n];show K (a.put l.dst _) _;rw[m];refine B _ _ ⟨E,?_⟩;refine anyS.step u x λO g=>?_
  rw[yCj (bI t _)];unfold VS;rw[C,WX];refine G.mono ?_;rintro e W' ⟨v,rfl,hR⟩;obtain⟨s2,z⟩:=R v W' hR;have d:=h v _ _ z;rw[Z6 _ _ y]at s2 d;rw[TD a H]at d;rw[p];exact g.out _ _ s2 d
end
variable {P:Nat}[NeZero P]{N:Nat}[NeZero N]
theorem Hv(C:Fld P)(k:∀r:EC.Pt P,On r->mul N r=none)(f:IsP N)(t:Nat)(L T:Nat->OnP P)(v:Md.Vs Bs (OnP P))(i m:Nat)(j:m=2^(t-(i+1)))(s:Bs)(c:Fin N)(g:chF N ((aD C k).vst (chF N) ivF t L T v i).s (L i) (T i)=(s,c)):
 (aD C k).vst (chF N) ivF t L T v (i+1)=⟨s,(aD C k).ad ((aD C k).ad ((aD C k).vst (chF N) ivF t L T v i).p ((aD C k).ac (c*c) (L i))) ((aD C k).ac (ivF (c*c)) (T i)),(aD C k).fP (ivF c) c m ((aD C k).vst (chF N) ivF t L T v i).g,(aD C k).fP c (ivF c) m ((aD C k).vst (chF N) ivF t L T v i).h⟩:=by
 have b:=P4 f ((aD C k).vst (chF N) ivF t L T v i).s (L i) (T i);rw[g]at b;have d:c.val≠0:=λe=>b (by
  have:c=0:=Fin.ext (e.trans (YM N).symm);show(c*c).val=0;rw[this];show(0%N*(0%N))%N=0;rw[YM,Nat.zero_mul,YM])
 rw[Md.Ib,RN f c d b,j];show(aD C k).Ep (chF N) ivF (2^(t-(i+1))) (L i) (T i) ((aD C k).vst (chF N) ivF t L T v i)=_;unfold Md.Ep;rw[g]
end
section
open SPA
variable {P:Nat}[NeZero P]{N:Nat}[NeZero N]
def QR(r k g:Nat):Prop:=g≠r/\(g<k\/k+3<=g)
structure Lk(w W:Uq)(r k kl kr t a b n:Nat)(v sv:Us)(Lb Rb:Nat->Bs)(L:Bs)(G H:Nat->List (Nat × Bs))(U l:List (Nat × Bs)):Prop where
 on:SP.Only r 0 32 w W
 rk:r<k
 wk:w.heap.size=k
 r0:Row W k (inL kl kr t a b)
 r1:Row W (k+1) [jZ r]
 r2:∃e:Array Us,v=.agg e/\e.size=3/\e.all (·.oneCell')=true/\Row W (k+2) e.toList
 pl:PtL (QR r k) W kl t Lb
 pr:PtL (QR r k) W kr t Rb
 gr:GRq (QR r k) W v n G H U
 sm:SmQ (QR r k) W sv l
 lg:Holds encB W r 0 L
 ls:L.size=32
section
variable {w W W':Uq}{r k kl kr t a b n:Nat}{v sv:Us}{Lb Rb:Nat->Bs}{L:Bs}{G H:Nat->List (Nat × Bs)}{U l:List (Nat × Bs)}
theorem Lk.any{c:Bs}(h:Lk w W r k kl kr t a b n v sv Lb Rb L G H U l)(m:SP.Only r 0 32 w W')(kq:Kq (QR r k) W W')(d:∀g,k<=g->g<k+3->W'.heap[g]? = W.heap[g]?)(i:Holds encB W' r 0 c)(f:c.size=32):Lk w W' r k kl kr t a b n v sv Lb Rb c G H U l:=by
 obtain⟨e,p,j,e3,o⟩:=h.r2;exact⟨m,h.rk,h.wk,aV h.r0 kq.size (d k oM oM),aV h.r1 kq.size (d _ oM oM),⟨e,p,j,e3,aV o kq.size (d _ oM oM)⟩,h.pl.keep kq,h.pr.keep kq,h.gr.keep kq,h.sm.keep kq,i,f⟩
theorem Lk.big(h:Lk w W r k kl kr t a b n v sv Lb Rb L G H U l):k+3<=W.heap.size:=by
 obtain⟨e,-,-,-,c⟩:=h.r2;exact c.1
theorem Lk.grow(h:Lk w W r k kl kr t a b n v sv Lb Rb L G H U l)(c:kZ W W'):Lk w W' r k kl kr t a b n v sv Lb Rb L G H U l:=by
 have d:=Holds.lt h.lg (by rw[h.ls];decide);exact h.any (h.on.trans (SP.Only.of_below c rfl d)) (Kq.of_below c) (λg f e=>c.block g (by have:=h.big;omega)) (Holds.below h.lg c d) h.ls
theorem Lk.drew(h:Lk w W r k kl kr t a b n v sv Lb Rb L G H U l):Lk w W.drew r k kl kr t a b n v sv Lb Rb L G H U l:=h.grow ⟨rfl,rfl,rfl,Uv _,λ_ _=>rfl⟩
theorem Lk.say{c:Bs}(h:Lk w W r k kl kr t a b n v sv Lb Rb L G H U l)(d:SP.Only r 0 32 W W')(e:Holds encB W' r 0 c)(f:c.size=32):Lk w W' r k kl kr t a b n v sv Lb Rb c G H U l:=by
 have i:=h.rk;exact h.any (h.on.trans d) (Kq.of_only d λg j=>j.1) (λg o m=>d.block g (by have:=h.big;omega) oM) e f
theorem Lk.qn(h:Lk w W r k kl kr t a b n v sv Lb Rb L G H U l):∀g,W.heap.size<=g->QR r k g:=λg c=>⟨by have:=h.rk;have:=h.big;omega,UW (by have:=h.big;omega)⟩
theorem Lk.hide{c:Us}{l':List (Nat × Bs)}(h:Lk w W r k kl kr t a b n v sv Lb Rb L G H U l)(d:SmQ (QR r k) W c l'):Lk w W r k kl kr t a b n v c Lb Rb L G H U l':=⟨h.on,h.rk,h.wk,h.r0,h.r1,h.r2,h.pl,h.pr,h.gr,d,h.lg,h.ls⟩
theorem Lk.next{j:Nat}{e:Array Us}{i f:Nat->List (Nat × Bs)}(h:Lk w W r k kl kr t a b n v sv Lb Rb L G H U l)(u:GRq (QR r k) W (.agg e) j i f U)(m:e.size=3)(p:e.all (·.oneCell')=true):Lk w (W.setCells (k+2) 0 e.toList) r k kl kr t a b j (.agg e) sv Lb Rb L i f U l:=by
 have c:∀g,g≠k+2->(W.setCells (k+2) 0 e.toList).heap[g]? = W.heap[g]?:=λg x=>aH (k+2) _ 0 W g x
 have d:W.heap.size<=(W.setCells (k+2) 0 e.toList).heap.size:=by rw[setCells_size];exact Uv _
 have kq:Kq (QR r k) W (W.setCells (k+2) 0 e.toList):=⟨d,λg q _=>c g (by have:=q.2;omega)⟩
 have s:=h.rk;obtain⟨z,-,o,-,y⟩:=h.r2;exact⟨jF h.on h.wk h.rk oM,h.rk,h.wk,aV h.r0 d (c k oM),aV h.r1 d (c _ oM),⟨e,rfl,m,p,y.put (by rw[UJ,UJ,m,o])⟩,h.pl.keep kq,h.pr.keep kq,u.keep kq,h.sm.keep kq,jM h.lg (c r oM),h.ls⟩
end
theorem SK(k c t a b:Nat)(w:Uq):(Vd 202 (.agg (inL k c t a b).toArray)).run prog w=.ok (jZ w.heap.size) (w.alloc (.cells (inL k c t a b).toArray 202)):=kR
theorem uPL:(prog.underlying 200).map (·.isRow)=some false:=kR
theorem EA{Q:Nat->Prop}{W:Uq}{g n:Nat}{p:Bs}(k:Row W g (wn n++aA p))(b:Q g):SmQ Q W (sZ g 1 1) [(n,p)]:=by
 have e:aU [(n,p)]=wn n++aA p:=by unfold aU;simp
 refine⟨g,1,rfl,Uv _,b,k.1,?_⟩;rw[e];exact k.2.1
theorem DK{k:VC}{o:Vj}{ev:XF->Us}{I:Sem Us}{v:Us}{w:Uq}(h:I.run k w=.ok v w)(b:U4 ev o=I >>= λv=>pure (Xo v):=by kernel_rfl):(U4 ev o).run k w=.ok (.value v) w:=by
 rw[b,UU,h];rfl
theorem Lk.rd{w W W':Uq}{r k d e t a b n:Nat}{v m:Us}{f Rb:Nat->Bs}{L:Bs}{G H:Nat->List (Nat × Bs)}{U l:List (Nat × Bs)}(h:Lk w W r k d e t a b n v m f Rb L G H U l)(c:SP.Only r 0 32 W W'){i:Nat}(j:i<t):
 W'.rangeAt (k+1) 0 [jZ r]/\W'.cell? ⟨k,0,none⟩=some (sZ d t t)/\W'.cell? ⟨k,1,none⟩=some (sZ e t t)/\W'.rangeAt d (0+33*i) (aA (f i))/\W'.rangeAt e (0+33*i) (aA (Rb i)):=by
 have o:=h.rk;have kq:Kq (QR r k) W W':=Kq.of_only c λg p=>p.1
 rw[UC];exact⟨(h.r1.only c oM).2.1,(h.r0.only c oM).2.1 0 _ rfl,(h.r0.only c oM).2.1 1 _ rfl,((h.pl.keep kq) i j).2.2,((h.pr.keep kq) i j).2.2⟩
theorem Rr(h:1<N):(-1:Fin N).val=sMi N 0 1:=by
 have b:(1:Fin N).val=1:=by
  show 1%N=1;exact UR h
 have k:(-1:Fin N).val=(N-(1:Fin N).val)%N:=Fin.val_neg' _;rw[k,b];unfold sMi;rw[UC]
omit [NeZero N] in
theorem KL(C:Fld P){X:EC.Pt P}(c:On X):wr X=o33↔X=none:=by
 rw[<-KO (P:=P)];refine⟨λh=>?_,λh=>by rw[h]⟩;obtain⟨p,k,b⟩:=zM C c;obtain⟨q,e,d⟩:=zM C (iN (P:=P));rw[h,e]at k;injection k with k
 rw[<-b,<-d,k]
theorem Si(C:Fld P)(O:Ord N)(k:∀r:EC.Pt P,On r->mul N r=none)(A:IsP N){Q:Nat->Prop}{c:Nat}{G H:Nat->List (Nat × Bs)}{U l:List (Nat × Bs)}{g h:Nat->OnP P}{u p:OnP P}(J:0<c)(F:c<=64)(hG:Gd N 1 c G g)(y:Gd N 1 c H h)(x:Tl N U u)(B:0<U.length)(E:U.length<=16)(o:Tl N l p)(K:l.length<=200)(a b:Fin N):
 ∃l' f Y,Y.size=33/\(Y=o33↔p=(aD C k).ad ((aD C k).ad ((aD C k).ac a (g 0)) ((aD C k).ac b (h 0))) ((aD C k).ac (a*b) u))/\(∀(W:Uq) (v va n:Us),GRq Q W v 1 G H U->SLq Q W va 1 (λ_=>a.val)->SLq Q W n 1 (λ_=>b.val)->UG prog 158 #[v,va,n] W (rZ W λe w'=>Sm W.heap.size w' e l')) /\
  (∀(W:Uq) (s m:Us),Sm 0 W s l'->Sm 0 W m l->UG prog 194 #[s,m] W (rZ W λe w'=>Sm W.heap.size w' e f)) /\
  (∀(W:Uq) (v:Us),Sm 0 W v f->UG prog 67 #[v] W (rZ W λe w'=>e=pvl Y)):=by
 have D:=sN (by decide:0<1) J oM hG y x B E;obtain⟨t,f⟩:=Ji C k hG y x (d:=U.length) rfl (λ_=>a) (λ_=>b);rw[<-kE]at t f;have j:=t.app C k (o.tm C k (-1));rw[Rr A.1]at j;have z:=(aD C k).Oy ((aD C k).hd (λ_=>a) (λ_=>b) g h u 1) p;rw[(aD C k).Jk (λ_=>a) (λ_=>b) g h u]at z j;refine⟨_,_,_,aT _,(KL C (Subtype.property _)).trans ((Subtype.ext_iff (a2:=(aD C k).zo)).symm.trans z),λW v va n w q I=>Ff O 1 c G H U D _ _ (λi _=>a.isLt) (λi _=>b.isLt) v va n W w q I,λW s m w q=>wH O 0 s m _ l (by rw[f];omega) (by rw[f];omega) oM t.ok.sz o.ok.sz o.ok.lt W (Wx _) w q,λW v hv=>?_⟩;exact j.point C O k (by rw[Uz,f];omega) (by rw[Uz,UP,f];omega) hv
theorem NQ{a b:Bs}(d:a.size=33)(c:b.size=33)(w:Uq):(binOp .eql 103 (pvl a) (pvl b)).run prog w=.ok (.bool (decide (a=b))) w:=by
 have k:(binOp .eql 103 (pvl a) (pvl b)).run prog w=(Op.equal 103 (pvl a) (pvl b) >>= λb=>pure (Value.bool b)).run prog w:=rfl;rw[k,UU,show(Op.equal 103 (pvl a) (pvl b)).run prog w=.ok (decide (a=b)) w from Sq d c w];rfl
theorem SH(n:Nat)(w:Uq):(Vx 124 1 #[(0,nv n)]).run prog w=.ok (sZ w.heap.size 1 1) (w.alloc (.cells (wn n).toArray 49)):=kR
theorem QL{Q:Nat->Prop}{W:Uq}{g n:Nat}(k:Row W g (wn n))(b:Q g):SLq Q W (sZ g 1 1) 1 (λ_=>n):=⟨g,0,1,rfl,Uv _,b,k.1,λj c=>by
 have:j=0:=oM;subst this;exact k.2.1⟩
theorem LQ(C:Fld P)(O:Ord N)(f:∀r:EC.Pt P,On r->mul N r=none)(hP:IsP N)(t:Nat)(ht:t<=6)(E A:Nat->OnP P)(v0:Md.Vs Bs (OnP P))(u:OnP P)(G0 H0:Nat->List (Nat × Bs))(U l0:List (Nat × Bs))(ds:Gd N (2^t) 1 G0 v0.g)(d0:Gd N (2^t) 1 H0 v0.h)(hU:Tl N U u)(d2:0<U.length)(dm:U.length<=16)(ki:Tl N l0 v0.p)(bg:0<l0.length/\l0.length<=150)
 (q Rb:Nat->Bs) (de:∀j,q j=wP (E j)) (dz:∀j,Rb j=wP (A j)) (r B D:Nat) (a b:Fin N) (n sv:Us) (w:Uq) (hL:Holds encB w r 0 v0.s) (bu:v0.s.size=32) (H:PtL (·≠r) w B t q) (L:PtL (·≠r) w D t Rb) (hv:GRq (·≠r) w n (2^t) G0 H0 U) (S:SmQ (·≠r) w sv l0) (Bd:Bool) (dw:Bd=true↔(aD C f).KV u a b ((aD C f).vst (chF N) ivF t E A v0 t)) :
 UG prog 123 #[.agg (inL B D t a.val b.val).toArray,lgV r,n,sv] w (Ret λe w'=>SP.Only r 0 32 w w'/\e=.bool Bd):=by
 have hr:=Holds.lt hL (by rw[bu];decide);obtain⟨k,hk⟩:=hE (w.heap.size);obtain⟨e0,dl,dh,db⟩:=hv.ar;subst dl;obtain⟨w1,k0⟩:=hE (w.alloc (.cells (inL B D t a.val b.val).toArray 202));obtain⟨w2,k6⟩:=hE (w1.alloc (.cells #[jZ r] 145));obtain⟨w3,kx⟩:∃w3,Hid (w2.alloc (.cells e0 133)=w3):=⟨_,rfl⟩
 have z1:w1.heap.size=k+1:=by rw[<-k0.out,UA,hk.out]
 have z2:w2.heap.size=k+2:=by rw[<-k6.out,UA,z1]
 have cy:r<k:=by rw[<-hk.out];exact hr
 have K3:Hid (Lk w w3 r k B D t a.val b.val (2^t) (.agg e0) sv q Rb v0.s G0 H0 U l0):=by
  have b1:kZ w w1:=by rw[<-k0.out];exact aC _ _
  have b2:kZ w1 w2:=by rw[<-k6.out];exact aC _ _
  have G:kZ w2 w3:=by rw[<-kx.out];exact aC _ _
  have r1:Row w1 k (inL B D t a.val b.val):=by rw[<-k0.out,<-hk.out];exact aE w _ _
  have r2:Row w2 (k+1) [jZ r]:=by rw[<-k6.out,<-z1];exact aE w1 _ _
  have T:Row w3 (k+2) e0.toList:=by rw[<-kx.out,<-z2];exact aE w2 e0.toList 133
  have o:kZ w w3:=(b1.trans (b2.mono b1.size)).trans (G.mono (UB b1.size b2.size));have n:∀g,g<w.heap.size->g≠r->QR r k g:=λg hg J=>⟨J,U3 (by rw[<-hk.out];exact hg)⟩
  have kq:∀ {Q:Nat->Prop},Kq Q w w3:=Kq.of_below o;have K:SmQ (QR r k) w sv l0:=by
   obtain⟨g,c,h1,h2,V,M,R⟩:=S;exact⟨g,c,h1,h2,n g M V,M,R⟩
  exact⟨SP.Only.of_below o rfl hr,cy,hk.out,(r1.below b2).below G,r2.below G,⟨e0,rfl,dh,db,T⟩,(H.mono2 n).keep kq,(L.mono2 n).keep kq,(hv.mono2 n).keep kq,K.keep kq,Holds.below hL o hr,bu⟩
 obtain⟨vI,hvI⟩:=hE (U2 (inL B D t a.val b.val).toArray);obtain⟨vl,b5⟩:=hE (lgV r);obtain⟨vG,cg⟩:=hE (U2 e0);have B1:Hid ((Vd 202 vI).run prog w=.ok (jZ k) w1):=by rw[<-hvI.out,<-k0.out,<-hk.out];exact SK B D t a.val b.val w
 have B2:Hid ((Vd 145 vl).run prog w1=.ok (.pointer (some ⟨k+1,0,none⟩)) w2):=by rw[<-b5.out,<-k6.out,<-z1];exact Na r w1
 have B3:Hid ((Vd 133 vG).run prog w2=.ok (.pointer (some ⟨k+2,0,none⟩)) w3):=by
  obtain⟨n,a2,G,H⟩:∃a b c,e0=#[a,b,c]:=by
   obtain⟨x1,x2,J,e,-⟩:=hv.ex;injection e with e
   exact⟨x1,x2,J,e⟩
  rw[<-cg.out,<-kx.out,<-z2,H];exact CJ n a2 G w2
 have K4:Hid (∃v G H l,Gd N (2^(t-0)) (2^0) G ((aD C f).vst (chF N) ivF t E A v0 0).g/\Gd N (2^(t-0)) (2^0) H ((aD C f).vst (chF N) ivF t E A v0 0).h/\Tl N l ((aD C f).vst (chF N) ivF t E A v0 0).p/\l.length=l0.length+2*0/\Lk w w3 r k B D t a.val b.val (2^(t-0)) v sv q Rb ((aD C f).vst (chF N) ivF t E A v0 0).s G H U l):=⟨_,G0,H0,l0,ds,d0,ki,rfl,K3.out⟩
 have M:Hid ((∀j,q j=wP (E j))/\∀j,Rb j=wP (A j)):=⟨de,dz⟩
 have K:=mk7 C O hP hU d2 dm ht;have b4:=Hid.mk' bg;clear bg;have cf:=Hid.mk' dw;have c0:=K3.r0.2.1 0 _ rfl;rw[hvI.out,b5.out,cg.out];go_enter func123,ntmps123;go_wp2_with (first|(refine aF (u:=vI) (v:=jZ k) (w':=w1) rfl 202 (.tmp 0) rfl ?_ ?_ ?_;rfl;exact B1.out)|(refine aF (u:=vl) (v:=.pointer (some ⟨k+1,0,none⟩)) (w':=w2) rfl 145 (.tmp 1) rfl ?_ ?_ ?_;rfl;exact B2.out)|(refine aF (u:=vG) (v:=.pointer (some ⟨k+2,0,none⟩)) (w':=w3) rfl 133 (.tmp 2) rfl ?_ ?_ ?_;rfl;exact B3.out)|fail)
 go_loopg [3,16] t (λm s3 s16 W=>∃i:Nat,i+m=t/\s16=iZ i/\Hid (∃v G H l,Gd N (2^(t-i)) (2^i) G ((aD C f).vst (chF N) ivF t E A v0 i).g/\Gd N (2^(t-i)) (2^i) H ((aD C f).vst (chF N) ivF t E A v0 i).h/\Tl N l ((aD C f).vst (chF N) ivF t E A v0 i).p/\l.length=l0.length+2*i/\Lk w W r k B D t a.val b.val (2^(t-i)) v s3 q Rb ((aD C f).vst (chF N) ivF t E A v0 i).s G H U l))
 case atStart=>exact⟨0,oM,rfl,K4⟩
 case round =>
  obtain⟨i,e2,rfl,KM⟩:=hrel;by_cases hi:i<t
  ·have d4:(i:Int)<(t:Int):=oM;obtain⟨v,G,H,l,hG,hH,hl,kv,hR⟩:=KM.out;have HI:=Hid.mk' hi;obtain⟨m,hm⟩:∃m,m=2^(t-(i+1)):=⟨_,rfl⟩
   have kg:2^(t-i)=m+m:=by rw[hm,show t-i=t-(i+1)+1 by omega,V6];omega
   have b8:0<m:=by rw[hm];exact XH dC
   obtain⟨c,hc⟩:∃c,c=2^i:=⟨_,rfl⟩
   have k2:0<c:=by rw[hc];exact XH dC
   have c9:c*(m+m)<=64:=by
    rw[<-kg,hc,<-Nat.pow_add,show i+(t-i)=t by omega];exact UB (Vz dC K.2.2.2.2.2.2) dC
   have HE:Hid (2^(t-(i+1))=m/\2^(i+1)=c+c):=⟨hm.symm,by rw[V6,hc];omega⟩
   rw[kg,<-hc]at hG hH;rw[kg]at hR;have cq:=λ(s:Bs) (x:Fin N)=>Hv C f K.2.2.1 t E A v0 i m hm s x
   obtain⟨sx,n,ko,k7⟩:=JQ K.2.1 K.2.2.1 r ((aD C f).vst (chF N) ivF t E A v0 i).s (E i) (A i) (q i) (Rb i) (M.1 i) (M.2 i);have bp:=cq sx n ko.1;have HS:=Hid.mk' bp;have dq:(q i).size=33:=by rw[M.1 i];exact aT _
   have co:(Rb i).size=33:=by rw[M.2 i];exact aT _
   have hw:=Hid.mk' (V0 dq co);generalize dk:(aD C f).vst (chF N) ivF t E A v0 i=Vi at hG hH hl hR ko k7 HS;have HG:=Hid.mk' (V0 hG (V0 hH (V0 hl (V0 kv (V0 b8 (V0 k2 c9))))));clear hG hH hl kv b8 k2 c9 dk;have HR:=Hid.mk' hR;clear hR;go_wp2_with fail
   have R0:=HR.drew;have h7:=λ(W:Uq) (hO:SP.Only r 0 32 wr.drew W)=>R0.rd hO HI.out
   have O0:SP.Only r 0 32 wr.drew wr.drew:=SP.Only.of_below (UQ _ _) rfl (Holds.lt R0.lg (by rw[R0.ls];decide));obtain⟨dL,b9,bv⟩:=Ux.1 uLg;obtain⟨dP,ke,kb⟩:=Ux.1 uCP;have bh:(prog.info? 103).map (·.size)=some (aA (q i)).length:=by rw[aB hw.1];exact iCP
   have bj:(prog.info? 103).map (·.size)=some (aA (Rb i)).length:=by rw[aB hw.2];exact iCP
   refine anyS.begin (λ_ W=>SP.Only r 0 32 wr.drew W) kR ?_;have bS:∀(p:Nat),Bef (λ_ W=>SP.Only r 0 32 wr.drew W) p wr.drew:=λp=>⟨#[],by simp,O0⟩
   refine anyS.row (i:=0) (d:=some 19) (cs:=[jZ r]) rfl 13 (λ_ _ h=>h) 145 5 (k+1) 0 dL rfl b9 bv iLg (λW ⟨l,e,h⟩=>(h7 W h).1) (bS 13) O0 ?_;simp only[UM,Ur,Ut,Uu];refine anyS.val (i:=1) (d:=some 20) (x:=jZ k) rfl 13 (λ_ _ h=>h) (bS 13) O0 ?_;simp only[UM,Ur,Ut,Uu];refine anyS.cel (i:=2) (d:=some 21) (x:=sZ B t t) rfl 13 (λ_ _ h=>h) 200 20 k 0 rfl uPL (λW ⟨l,e,h⟩=>(h7 W h).2.1) (bS 13) O0 ?_;simp only[UM,Ur,Ut,Uu];refine anyS.val (i:=3) (d:=some 22) (x:=iZ i) rfl 13 (λ_ _ h=>h) (bS 13) O0 ?_;simp only[UM,Ur,Ut,Uu];refine anyS.val (i:=4) (d:=some 23) (x:=.pointer (some ⟨B,0+33*i,none⟩)) rfl 13 (λ_ _ h=>h) (bS 13) O0 ?_ (λW=>DK (I:=Vk 200 (sZ B t t) (iZ i)) (atP B 0 t t i HI.out W));simp only[UM,Ur,Ut,Uu];refine anyS.row (i:=5) (d:=some 24) (cs:=aA (q i)) rfl 13 (λ_ _ h=>h) 103 23 B (0+33*i) dP rfl ke kb bh (λW ⟨l,e,h⟩=>(h7 W h).2.2.2.1) (bS 13) O0 ?_;simp only[UM,Ur,Ut,Uu];refine anyS.val (i:=6) (d:=some 25) (x:=oZ k 1) rfl 13 (λ_ _ h=>h) (bS 13) O0 ?_;simp only[UM,Ur,Ut,Uu];refine anyS.cel (i:=7) (d:=some 26) (x:=sZ D t t) rfl 13 (λ_ _ h=>h) 200 25 k 1 rfl uPL (λW ⟨l,e,h⟩=>(h7 W h).2.2.1) (bS 13) O0 ?_;refine anyS.val (i:=8) (d:=some 27) (x:=iZ i) rfl 13 (λ_ _ h=>h) (bS 13) O0 ?_;refine anyS.val (i:=9) (d:=some 28) (x:=.pointer (some ⟨D,0+33*i,none⟩)) rfl 13 (λ_ _ h=>h) (bS 13) O0 ?_ (λW=>DK (I:=Vk 200 (sZ D t t) (iZ i)) (atP D 0 t t i HI.out W));refine anyS.row (i:=10) (d:=some 29) (cs:=aA (Rb i)) rfl 13 (λ_ _ h=>h) 103 28 D (0+33*i) dP rfl ke kb bj (λW ⟨l,e,h⟩=>(h7 W h).2.2.2.2) (bS 13) O0 ?_;have h6:r<wr.drew.heap.size:=Holds.lt R0.lg (by rw[R0.ls];decide);have bA:=aC wr.drew (.cells #[uZ 0,uZ 0,uZ 0,uZ 0] 49);have oA:SP.Only r 0 32 wr.drew (wr.drew.alloc (.cells #[uZ 0,uZ 0,uZ 0,uZ 0] 49)):=SP.Only.of_below bA rfl h6;refine anyS.calal (i:=11) (j:=12) (di:=30) (dj:=10) (obj:=.cells #[uZ 0,uZ 0,uZ 0,uZ 0] 49) (F:=λv b W'=>v=nv n.val/\SP.Only r 0 32 wr.drew W'/\Holds encB W' r 0 sx/\wr.drew.heap.size<=b/\Row W' b [uZ 0,uZ 0,uZ 0,uZ 0]) rfl rfl (k7 wr.drew R0.lg R0.ls) (k7 _ (Holds.below R0.lg bA h6) R0.ls) oA ?_ ?_ (by intro _ _;kernel_rfl) ?_
   ·rintro v W' ⟨hO,hH,rfl⟩;have o:=aC W' (.cells #[uZ 0,uZ 0,uZ 0,uZ 0] 49);have J:=Uw h6 hO.size;exact⟨hO,hO.trans (SP.Only.of_below o rfl J),rfl,hO.trans (SP.Only.of_below o rfl J),Holds.below hH o J,hO.size,aE W' _ _⟩
   ·rintro v W' ⟨hO,hH,rfl⟩;exact⟨oA.trans hO,rfl,oA.trans hO,hH,Uv _,(aE wr.drew [uZ 0,uZ 0,uZ 0,uZ 0] 49).only hO (V7 h6)⟩
   ·rintro xv k4 W4 ⟨rfl,be,c8,k1,kk⟩;have ky:SP.Only r 0 32 wr.drew (W4.setCells k4 0 (wn n.val)):=dW be h6 k1 0;refine anyS.sta (i:=13) (d:=none) rfl 49 (.tmp 10) (.tmp 30) rfl k4 0 (wn n.val).toArray (aM _) kk.2.2 nSc ky ?_;simp only[UM,Ur,Ut,Uu];refine anyS.fin kR ?_ _;intro W5 c5;have h8:=c5;have R5:Lk w W5 r k B D t a.val b.val (m+m) v u3 q Rb sx G H U l:=by rw[h8];exact R0.say ky (fE c8 oM) ko.2
    have r5:Row W5 k4 (wn n.val):=by rw[h8];exact kk.put rfl
    obtain⟨x,h0⟩:=hE (n.val);obtain⟨J,Z⟩:=hE ((n*n).val);obtain⟨xi,hq⟩:=hE ((ivF (n*n)).val);have ct:Hid (∀W:Uq,UG prog 79 #[nv x,nv x] W (rZ W λe w'=>e=nv J)):=by
     rw[<-h0.out,<-Z.out];exact λW=>iI K.2.1 n.val n.val n.isLt n.isLt W
    have dd:Hid (∀W:Uq,UG prog 159 #[nv J] W (rZ W λe w'=>e=nv xi)):=by
     rw[<-Z.out,<-hq.out];exact λW=>uS K.2.1 (n*n).val (n*n).isLt W
    rw[h0.out]at r5;rw[h0.out];have K5:=Hid.mk' (V0 R5 r5);clear R5 r5 h8 c5 ky be c8 k1 kk R0 h7 O0 oA bA h6 HR k7;obtain⟨vx,h9⟩:=hE (nv x);have bd:Hid (∀W:Uq,UG prog 79 #[vx,vx] W (rZ W λe w'=>e=nv J)):=by rw[<-h9.out];exact ct.out
    obtain⟨dS,k9,kd⟩:=Ux.1 rSc;rw[h9.out];go_wp2_with (first|(refine ldR 10 K5.2.2.1 h9 rSc nSc ?_)|fail)
    refine(bd W5).mono ?_;rintro e W6 ⟨uu,rfl,c4,rfl⟩;obtain⟨kt,hu⟩:=hE (W6.heap.size);obtain⟨W7,bs⟩:=hE (W6.alloc (.cells #[uZ 0,uZ 0,uZ 0,uZ 0] 49));obtain⟨Y,kn⟩:=hE (W7.setCells kt 0 (wn J));have F7:Hid (Row W7 kt [uZ 0,uZ 0,uZ 0,uZ 0]/\kZ W6 W7):=by rw[<-bs.out,<-hu.out];exact⟨aE W6 _ _,aC _ _⟩
    have cd:kZ W5 Y:=by
     have:kZ W6 Y:=by rw[<-kn.out];exact RG.below_setCells (by rw[hu.out];exact Uv _) _ _ _ F7.2
     exact c4.trans (this.mono c4.size)
    have K8:Hid (Lk w Y r k B D t a.val b.val (m+m) v u3 q Rb sx G H U l/\Row Y k4 (wn x)/\Row Y kt (wn J)):=⟨K5.1.grow cd,K5.2.below cd,by rw[<-kn.out];exact F7.1.put rfl⟩
    obtain⟨vq,kp⟩:=hE (nv J);rw[kp.out];go_wp2_with (first|(refine alR 11 hu bs ?_)|(refine stR 11 kn kp F7.1.2.2 nSc (aM J) ?_)|fail)
    have d5:∀(W:Uq),kZ Y W->∀g,W.heap.size<=g->QR r k g:=λW o g hg=>K8.1.qn g (UB o.size hg)
    have o8:∀(W:Uq),kZ Y W->SP.Only r 0 32 Y W:=λW o=>SP.Only.of_below o rfl (Holds.lt K8.1.lg (by rw[K8.1.ls];decide))
    have hp:=Hid.mk' (λ(W:Uq) (o:kZ Y W)=>K8.1.rd (o8 W o) HI.out);have he:=Hid.mk' d5;have tk:=HG.2.2.1.ok;have bc:TOk N [(J,q i)]:=by rw[<-Z.out,M.1 i];exact(Tl.pt C f (n*n) (E i)).ok
    have d7:TOk N [(xi,Rb i)]:=by rw[<-hq.out,M.2 i];exact(Tl.pt C f (ivF (n*n)) (A i)).ok
    have e1:l.length<=200:=by have:=HG.2.2.2.1;have:=K.2.2.2.2.2.2;have:=HI.out;have:=b4.2;omega
    have ki:0<l.length:=by have:=HG.2.2.2.1;have:=b4.1;omega
    have ci:=Hid.mk' (λW=>kU (q i) hw.1 J W);have cj:=Hid.mk' (λW=>kU (Rb i) hw.2 xi W);have bo:=Hid.mk' (λ(s1 s2:Us) (W:Uq) (h1:Sm 0 W s1 l) (h2:Sm 0 W s2 [(J,q i)])=>rT 0 s1 s2 l [(J,q i)] ki oM (by simp) tk.sz bc.sz W h1 h2);have b6:=Hid.mk' (λ(s1 s2:Us) (W:Uq) (h1:Sm 0 W s1 (l++[(J,q i)])) (h2:Sm 0 W s2 [(xi,Rb i)])=>rT 0 s1 s2 (l++[(J,q i)]) [(xi,Rb i)] (by simp) (by simp;omega) (by simp) (tk.app bc).sz d7.sz W h1 h2);rw[<-kp.out];refine(gwL [pE u3,pE (jZ k),pE (sZ B t t),pE (iZ i),pE (.pointer (some ⟨B,0+33*i,none⟩)),pE (pvl (q i)),pE (nv J),pM (QR r k) [(J,q i)],pM (QR r k) (l++[(J,q i)]),pE (oZ k 1),pE (sZ D t t),pE (iZ i),pE (.pointer (some ⟨D,0+33*i,none⟩)),pE (pvl (Rb i)),pE (nv J),pE (nv xi),pM (QR r k) [(xi,Rb i)],pM (QR r k) (l++[(J,q i)]++[(xi,Rb i)])] (λW=>kZ Y W) (λW W' hb h=>h.trans (hb.mono h.size))).tail2 18 kR kR kR ⟨
     gO 3 u3,
     gO 4 (jZ k),
     fF 200 1 35 k 0 (sZ B t t) uPL (λx W h=>h) (λW o=>(hp W o).2.1) (λ_=>rfl),
     gO 9 (iZ i),
     RG.gX 2 36 3 37 (atP B 0 t t i HI.out),
     gLr 4 38 (λW o=>(hp W o).2.2.2.1) uCP bh,
     gLo 11 (λW o=>RG.range_below K8.2.2.2.1 o K8.2.2.1) rSc nSc,
     eD 5 39 6 40 64 (λx y=>#[x,y]) (λz y W hx R o=>by
      obtain rfl:z=pvl (q i):=hx;obtain rfl:y=nv J:=R;refine(ci W).mono ?_;rintro e W' ⟨uu,rfl,hb,g,rfl,hg,L⟩;exact⟨_,rfl,hb,EA L (he W o g hg)⟩),
     eD 0 34 7 41 65 (λx y=>#[x,y]) (λz y W hx R o=>by
      obtain rfl:z=u3:=hx;have R:=R;refine(bo z y W ((K8.1.grow o).sm.sm) R.sm).mono ?_;rintro e W' ⟨uu,rfl,hb,S⟩;exact⟨_,rfl,hb,S.q.mono λg hg=>he.out W o g hg⟩),
     gP 4 (jZ k) (oZ k 1),
     fF 200 9 43 k 1 (sZ D t t) uPL (λx W h=>h) (λW o=>(hp W o).2.2.1) (λ_=>rfl),
     gO 9 (iZ i),
     RG.gX 10 44 11 45 (atP D 0 t t i HI.out),
     gLr 12 46 (λW o=>(hp W o).2.2.2.2) uCP bj,
     gLo 11 (λW o=>RG.range_below K8.2.2.2.1 o K8.2.2.1) rSc nSc,
     oW 14 48 159 (λx=>#[x]) (λz W hx o=>by
      obtain rfl:z=nv J:=hx;exact dd.out W),
     eD 13 47 15 49 64 (λx y=>#[x,y]) (λz y W hx R o=>by
      obtain rfl:z=pvl (Rb i):=hx;obtain rfl:y=nv xi:=R;refine(cj W).mono ?_;rintro e W' ⟨uu,rfl,hb,g,rfl,hg,L⟩;exact⟨_,rfl,hb,EA L (he W o g hg)⟩),
     eD 8 42 16 50 65 (λx y=>#[x,y]) (λz y W hx R o=>by
      have hx:=hx;have R:=R;refine(b6 z y W hx.sm R.sm).mono ?_;rintro e W' ⟨uu,rfl,hb,S⟩;exact⟨_,rfl,hb,S.q.mono λg hg=>he.out W o g hg⟩),yCl⟩ (UQ _ _).drew ?_
    intro V W9 bl kz;have k8:=bl 17 dC;have K9:=mk2 ((K8.1.grow kz).hide k8) (K8.2.1.below kz);dsimp only[bU,VJ,Xk,Xl];generalize V 17=s17 at K9⊢;clear k8 bl kz K8 hp he ci cj bo b6;generalize V 0=y0;generalize V 1=y1;generalize V 2=y2;generalize V 3=y3;generalize V 4=y4;generalize V 5=y5;generalize V 6=y6;generalize V 7=y7;generalize V 8=y8;generalize V 9=y9;generalize V 10=ya;generalize V 11=yb;generalize V 12=yc;generalize V 13=yd;generalize V 14=ye;generalize V 15=yf;generalize V 16=yg;clear V;obtain⟨ev,k5,R,kc,T⟩:=K9.1.r2;have cn:GOk N (m+m) c G H U:=sN (by have:=HG.2.2.2.2.1;omega) HG.2.2.2.2.2.1 HG.2.2.2.2.2.2 HG.1 HG.2.1 K.2.2.2.1 K.2.2.2.2.1 K.2.2.2.2.2.1;obtain⟨xo,ka⟩:∃x,Hid ((ivF n).val=x):=⟨_,rfl⟩
    have ck:x<N:=by rw[<-h0.out];exact n.isLt
    have b7:sIn N x=xo:=by rw[<-h0.out,<-ka.out];rfl
    have k3:=Fp K.2.1 m c HG.2.2.2.2.1 G H U cn x ck v W9 K9.1.qn K9.1.gr;rw[b7]at k3;obtain⟨yv,ha⟩:∃y,Hid (v=y):=⟨_,rfl⟩
    have L:Hid (U2 ev.toList.toArray=yv/\Row W9 (k+2) ev.toList/\(prog.info? 133).map (·.size)=some ev.toList.length/\ev.size=3):=⟨k5.symm.trans ha.out,T,by rw[UJ,R];exact iGr,R⟩
    rw[ha.out,h9.out]at k3;have cu:=Hid.mk' k3;obtain⟨dG,S,X⟩:=Ux.1 uGr;have bm:Hid (prog.underlying 133=some dG/\dG.isRow=true):=⟨S,X⟩
    clear k5 R kc T cn ck b7 k3 S X;go_wp2_with (first|(refine U5 rfl 133 (.tmp 6) rfl (k+2) 0 ?_ ev.toList dG ?_ ?_ ?_ ?_ ?_;rfl;exact L.2.1.2.1;exact bm.1;exact bm.2;exact L.2.2.1;rw[L.1])|(refine ldR 10 K9.2.2.1 h9 rSc nSc ?_)|fail)
    refine cu.mono ?_;rintro e Wa ⟨vf,rfl,c3,bt⟩;obtain⟨ef,d6,hn,kf⟩:=bt.ar;subst d6;have La:=(K9.1.grow c3).next bt hn kf;obtain⟨Wb,bz⟩:∃W,Hid (Wa.setCells (k+2) 0 ef.toList=W):=⟨_,rfl⟩
    rw[bz.out]at La;have kj:Hid (Wa.there (k+2) 0 ef.size/\(prog.info? 133).map (·.size)=some ef.size/\ef.all (·.oneCell')=true):=by
     refine⟨?_,by rw[hn];exact iGr,kf⟩;rw[hn];have:=(L.2.1.below c3).2.2;rw[UJ,L.2.2.2]at this;exact this
    have br:Hid (∃v G H l,Gd N (2^(t-(i+1))) (2^(i+1)) G ((aD C f).vst (chF N) ivF t E A v0 (i+1)).g/\Gd N (2^(t-(i+1))) (2^(i+1)) H ((aD C f).vst (chF N) ivF t E A v0 (i+1)).h/\Tl N l ((aD C f).vst (chF N) ivF t E A v0 (i+1)).p/\l.length=l0.length+2*(i+1)/\Lk w Wb r k B D t a.val b.val (2^(t-(i+1))) v s17 q Rb ((aD C f).vst (chF N) ivF t E A v0 (i+1)).s G H U l):=by
     show ∃v G H l,_;rw[HS.out,HE.1,HE.2];have g1:=HG.1.fold C f (ivF n) n;have g2:=HG.2.1.fold C f n (ivF n);rw[h0.out,ka.out]at g1 g2;have tl:=(HG.2.2.1.app C f (Tl.pt C f (n*n) (E i))).app C f (Tl.pt C f (ivF (n*n)) (A i));rw[Z.out,hq.out]at tl;have df:Tl N (l++[(J,q i)]++[(xi,Rb i)]) ((aD C f).ad ((aD C f).ad Vi.p ((aD C f).ac (n*n) (E i))) ((aD C f).ac (ivF (n*n)) (A i))):=by rw[M.1 i,M.2 i];exact tl
     exact⟨_,_,_,_,g1,g2,df,by have:=HG.2.2.2.1;simp;omega,La⟩
    obtain⟨vo,c6⟩:=hE (U2 ef);rw[c6.out];go_wp2_with (first|(refine U1 rfl 133 (.tmp 6) _ rfl (k+2) 0 ef ?_ ?_ ?_ ?_ ?_ ?_;rfl;exact c6.symm;exact kj.1;exact kj.2.1;exact kj.2.2;rw[bz.out])|fail)
    go_roundg (gk-1)
    case measure=>have:=HI.out;omega
    case rel=>exact⟨i+1,by have:=HI.out;omega,rfl,br⟩
  ·have d4:¬(i:Int)<(t:Int):=oM;have da:i=t:=oM;obtain⟨v,G,H,l,hG,hH,hl,kv,hR⟩:=KM.out;subst da;rw[Nat.sub_self,Nat.pow_zero]at hG hH hR;have k2:0<2^i:=XH dC;have ba:2^i<=64:=UB (Vz dC K.2.2.2.2.2.2) dC;obtain⟨l1,l2,Y,d3,d9,cH,cM,cP⟩:=Si (Q:=QR r k) C K.2.1 f K.2.2.1 k2 ba hG hH K.2.2.2.1 K.2.2.2.2.1 K.2.2.2.2.2.1 hl (by have:=K.2.2.2.2.2.2;have:=b4.2;omega) a b;have cp:decide (Y=o33)=Bd:=by
    have h2:=d9.trans cf.symm;cases Bd with
    | true=>exact decide_eq_true (h2.2 rfl)
    | false=>exact decide_eq_false λh=>Bool.false_ne_true (h2.1 h)
   obtain⟨ev,k5,R,kc,T⟩:=hR.r2;obtain⟨g1,J⟩:=hE (wr.heap.size);obtain⟨n,kh⟩:=hE (wr.alloc (.cells (wn a.val).toArray 49));obtain⟨g2,ku⟩:∃g,Hid (n.heap.size=g):=⟨_,rfl⟩
   obtain⟨W2,Z⟩:∃W,Hid (n.alloc (.cells (wn b.val).toArray 49)=W):=⟨_,rfl⟩
   have b1:kZ wr n:=by rw[<-kh.out];exact aC _ _
   have b2:kZ n W2:=by rw[<-Z.out];exact aC _ _
   have r1:Row n g1 (wn a.val):=by rw[<-kh.out,<-J.out];exact aE wr _ _
   have r2:Row W2 g2 (wn b.val):=by rw[<-Z.out,<-ku.out];exact aE n _ _
   have L1:=hR.grow b1;have L2:=L1.grow b2;have q1:QR r k g1:=by rw[<-J.out];exact hR.qn _ (Uv _)
   have q2:QR r k g2:=by rw[<-ku.out];exact L1.qn _ (Uv _)
   have bi:=cH W2 v _ _ L2.gr (QL (r1.below b2) q1) (QL r2 q2);obtain⟨yv,ha⟩:∃y,Hid (v=y):=⟨_,rfl⟩
   obtain⟨va,bf⟩:∃y,Hid (nv a.val=y):=⟨_,rfl⟩
   obtain⟨vb,bq⟩:∃y,Hid (nv b.val=y):=⟨_,rfl⟩
   rw[ha.out]at bi;have ra:∀ {W:Uq},Row W k (inL B D i a.val b.val)->W.rangeAt k 2 (wn a.val)/\W.rangeAt k 6 (wn b.val):=λhW=>⟨λj z o=>by
    have:=hW.2.1 (2+j) z (by
     have V:j<4:=(UE.1 o).1;match j,V with
     | 0,_=>exact o
     | 1,_=>exact o
     | 2,_=>exact o
     | 3,_=>exact o
     | j+4,h=>omega)
    rw[UC]at this;exact this,λj z o=>by
    have:=hW.2.1 (6+j) z (by
     have V:j<4:=(UE.1 o).1;match j,V with
     | 0,_=>exact o
     | 1,_=>exact o
     | 2,_=>exact o
     | 3,_=>exact o
     | j+4,h=>omega)
    rw[UC]at this;exact this⟩
   have S1:Hid ((Vx 124 1 #[(0,va)]).run prog wr=.ok (sZ g1 1 1) n):=by rw[<-bf.out,<-J.out,<-kh.out];exact SH a.val wr
   have S2:Hid ((Vx 124 1 #[(0,vb)]).run prog n=.ok (sZ g2 1 1) W2):=by rw[<-bq.out,<-ku.out,<-Z.out];exact SH b.val n
   have km:=mk3 ((ra hR.r0).1) ((ra L1.r0).2) T.2.1;have L:Hid (U2 ev.toList.toArray=yv/\(prog.info? 133).map (·.size)=some ev.toList.length):=⟨k5.symm.trans ha.out,by rw[UJ,R];exact iGr⟩
   obtain⟨dG,S,X⟩:=Ux.1 uGr;obtain⟨dS,k9,kd⟩:=Ux.1 rSc;have HD:Hid ((prog.underlying 133=some dG/\dG.isRow=true)/\prog.underlying 49=some dS/\dS.isRow=true):=⟨⟨S,X⟩,k9,kd⟩
   have dy:=Hid.mk' bi;have kw:=Hid.mk' (V0 cM cP);have d8:=Hid.mk' L2;obtain⟨vz,d1⟩:=hE (U2 z33.toArray);obtain⟨vy,c7⟩:=hE (pvl Y);rw[c7.out]at kw;have HZ:Hid (∀W,(binOp .eql 103 vy vz).run prog W=.ok (.bool Bd) W/\(Instr.build 103 #[]).run prog W=.ok vz W/\(eqGuard .eql 103 (.tmp 67) (.tmp 68) vy vz).run prog W=.ok () W):=by
    rw[<-d1.out,<-c7.out,<-cp];exact λW=>⟨by rw[Mw];exact NQ d3 rfl W,NV W,by unfold pvl;kernel_rfl⟩
   go_wp2_with (first|(refine U5 rfl 133 (.tmp 6) rfl (k+2) 0 ?_ ev.toList dG ?_ ?_ ?_ ?_ ?_;rfl;exact km.2.2;exact HD.1.1;exact HD.1.2;exact L.2;rw[L.1])|(refine ldR 57 km.1 bf rSc nSc ?_)|(refine ldR 60 km.2.1 bq rSc nSc ?_)|(refine jC (v:=sZ g1 1 1) (w':=n) rfl 124 1 _ rfl #[(0,va)] ?_ ?_ ?_;kernel_rfl;exact S1.out)|(refine jC (v:=sZ g2 1 1) (w':=W2) rfl 124 1 _ rfl #[(0,vb)] ?_ ?_ ?_;kernel_rfl;exact S2.out)|fail)
   refine dy.mono ?_;rintro e W3 ⟨s1,rfl,cz,du⟩;have L3:=d8.grow cz;have V:=Hid.mk' (V0 L3 (show Sm 0 W3 s1 l1 from by
    obtain⟨g,c,x1,x2,-,x4⟩:=du;exact⟨g,c,x1,x2,Wx _,x4⟩))
   go_wp2_with fail
   refine(kw.1 W3 s1 u3 V.2 V.1.sm.sm).mono ?_;rintro e W4 ⟨s2,rfl,k1,cv⟩;have L4:=V.1.grow k1;have bn:=Hid.mk' (V0 L4 (show Sm 0 W4 s2 l2 from by
    obtain⟨g,c,x1,x2,-,x4⟩:=cv;exact⟨g,c,x1,x2,Wx _,x4⟩))
   go_wp2_with fail
   refine(kw.2 W4 s2 bn.2).mono ?_;rintro e W5 ⟨uu,rfl,dx,dp⟩;have bk:=dp.symm;subst bk;have L5:=Hid.mk' (bn.1.grow dx).on;go_wp2_with (first|(refine lJ (v:=vz) (w':=W5) rfl 103 _ rfl #[] ?_ ?_ ?_;kernel_rfl;exact(HZ W5).2.1)|(refine bG (v:=.bool Bd) (w':=W5) rfl (.binOp .eql 103 (.tmp 67) (.tmp 68) 103) rfl ?_ ?_;exact DK (I:=eqGuard .eql 103 (.tmp 67) (.tmp 68) vy vz >>= λ_=>binOp .eql 103 vy vz) (by rw[UU,(HZ W5).2.2];exact(HZ W5).1))|fail)
   go_ret;exact⟨_,rfl,L5.out,rfl⟩
end
section
open SPA
variable {P:Nat}[NeZero P]{N:Nat}
noncomputable def gPG (C:Fld P):OnP P:=⟨gG P,Cr C⟩
noncomputable def hPV (C:Fld P):OnP P:=lPt C iE []
theorem MR(n m:Nat):cmt P n m=EC.add (mul n (.some (hpt P iE []))) (mul m (gG P)):=by
 unfold cmt;generalize (.some (hpt P iE []):EC.Pt P)=H;show EC.add (EC.add none (eF ((n:Nat):Int) H)) (eF ((m:Nat):Int) (gG P))=_;rw[jJ];rfl
section
variable [NeZero N]
theorem yB(C:Fld P)(k:∀r:EC.Pt P,On r->mul N r=none)(a b:Fin N):wr (cmt P a.val b.val)=wP ((aD C k).cm (hPV C) (gPG C) a b):=by
 rw[MR];rfl
structure RvL(C:Fld P)(hord:∀r:EC.Pt P,On r->mul N r=none)(R:Rv N)(V A S C1 C2 L3 L6 L8:Bs):Prop where
 eV:V=wP (R.pV (aD C hord) (gPG C) (hPV C))
 eA:A=wP (R.pA (aD C hord) (gPG C) (gPt C ⟨#[108,101,102,116]⟩) (gPt C ⟨#[114,105,103,104,116]⟩))
 eS:S=wP (R.pS (aD C hord) (gPG C) (gPt C ⟨#[108,101,102,116]⟩) (gPt C ⟨#[114,105,103,104,116]⟩))
 e1:C1=wP (R.p1 (aD C hord) (gPG C) (hPV C))
 e2:C2=wP (R.p2 (aD C hord) (gPG C) (hPV C))
 l3:L3=bgL V R.n A S
 y:R.y=kM N L3
 z:R.z=kM N (bB L3)
 l6:L6=mdL (bB (bB L3)) C1 C2
 x:R.x=kM N L6
 l8:L8=enL (bB L6) R.tau.val R.mu.val R.t.val
 w:R.w=kM N L8
structure RvS(R:Rv N)(sd:List UInt8):Prop where
 s:∀i,(R.s i).val=chL N [115,108] [sd,(hZ i).toList]
 q:∀i,(R.q i).val=chL N [115,114] [sd,(hZ i).toList]
 al:R.al.val=chL N [97,108,112,104,97] [sd]
 rho:R.rho.val=chL N [114,104,111] [sd]
 t1:R.t1.val=chL N [116,97,117,49] [sd]
 t2:R.t2.val=chL N [116,97,117,50] [sd]
end
theorem Ud(q:Option Wt)(n c:Nat)(w:Uq):(Vx 24 1 #[(0,.slice q n c)]).run prog w=.ok (sZ w.heap.size 1 1) (w.alloc (.cells #[.slice q n c] 23)):=kR
theorem Bf(O:Ord N)(d:ByteArray)(i:d.size<=1000)(g:List UInt8)(q:Option Wt)(n c:Nat)(w:Uq)(l:PartOk w (.slice q n c) g){x:Nat}(hx:x=chL N d.data.toList [g]):
 ∃k f,Hid ((Vx 24 1 #[(0,.slice q n c)]).run prog w=.ok (sZ k 1 1) f)/\Hid (kZ w f)/\Hid (UG prog 60 #[.string d,sZ k 1 1] f (rZ f λe w'=>e=nv x)):=by
 have b:=aC w (.cells #[.slice q n c] 23);refine⟨_,_,Ud q n c w,b,?_⟩;rw[hx];refine Cz O d _ 1 1 [g] _ oM rfl dC (UW ⟨_,_,rfl,λj f=>?_⟩);obtain rfl:j=0:=by simp at f;omega
 exact⟨_,(aE w [.slice q n c] 23).2.1 0 _ rfl,l.below b⟩
def rp0:Rp:=⟨o33,o33,o33,o33,0,0,0⟩
theorem Iy:rp0.Ok:=⟨rfl,rfl,rfl,rfl⟩
end
namespace RG
variable {P:VC}{ops:Array Vj}{Q:Yo->Act->Uq->Prop}{w:Uq}{a0:Act}{L:Array Bool}{F:Flow}{m:Nat}
theorem SU:∀(k:Nat) (L:Array Bool) (a:Act) (w:Uq),wpAny P .any ops Q k L a w->anyS P ops Q (λ_ _=>True) k L a w
 | 0,_,_,_,h=>h
 | k+1,_,_,_,h=>⟨h.1,λi b=>wpOp_mono (λc w' d=>⟨trivial,SU k _ c w' d⟩) (h.2 i b)⟩
def yH(k:Array Vj)(n:Nat)(late:List Nat):Bool:=(VF n).all (λj=>late.contains j || nC k 5 n j) && (VF k.size).all (λi=>decide (i<=n) || depOn k i (i-1))
theorem yG{n i:Nat}{late:List Nat}(h:yH ops n late=true)(c:n<i)(b:i<ops.size):depOn ops i (i-1)=true:=by
 unfold yH at h;rw[UK]at h;have k:=U9.1 h.2 i (VZ.2 b);rw[Xu,decide_eq_true_eq]at k;rcases k with k|k
 ·omega
 ·exact k
def lz(m n:Nat)(late:List Nat):Array Bool:=((VF m).map λi=>decide (i<n) && !late.contains i).toArray
structure LateP(P:VC)(F:Flow)(ops:Array Vj)(n:Nat)(late:List Nat)(j:Nat):Prop where
 lt:j<n
 o:∃o,ops[j]? = some o/\o.guard=none/\rC ops j=false/\(∀i oi,ops[i]? = some oi->i≠j->(i∈late\/n<=i)->(∀e∈oi.after,VO .any e=true->e.on≠j)->o.apart ops oi=true)/\(∃p op,n<=p/\ops[p]? = some op/\∃e∈op.after,VO .any e=true/\e.on=j)/\(∀e∈o.after,VO .any e=true->e.on<n/\e.on ∉ late)/\∃j' t,dB o j'=true/\aX ops j'=some t/\F.kill j'=[]/\∀v w,F.R j' v w->∃u,F.R j u w/\F.E j w w/\∀(a:Act) (W:Uq),a.eval (.tmp t)=v->(U4 a.eval o).run P W=.ok (.value u) W
theorem GL{id:Nat}(F:Flow)(n:Nat)(late:List Nat)(kf:∀j∈late,LateP P F ops n late j)(hQ:∀c (a:Act) t v w,Q (.panic c) (a.put (some t) v) w->Q (.panic c) a w)(hs:XK ops=true)(hn:n<ops.size)(hc:yH ops n late=true)(hm:P.follows .mixedOrders=true)(R:RegF P Q F ops a0 n)(hA:Als P F ops n)(hB:∀b,F.B b w.drew)
 (hp:∀(V:Nat->Us) (w':Uq),(∀i,i<n->F.kill i=[]->F.R i (V i) w')->(∀b,F.killB b=[]->F.B b w')->(∀i j,i<n->j<n->i≠j->rC ops i=true->rC ops j=true->(aX ops i).isSome=true->(aX ops j).isSome=true->V i≠V j)->wpList P ops Q (ops.toList.drop n) (bU V (ops.toList.take n) 0 a0) w'):(V3 id ops true).wp P Q a0 w:=by
 have kb:∀(i:Nat) (o:Vj),ops[i]? = some o->∀e∈o.after,VO .any e=true->e.on<i:=λi o ho=>(R.of ho).1
 have key:∀(m:Nat) (L:Array Bool) (a:Act) (w:Uq),unl L=m->(∀j,n<=j->on L j=false)->InvF F ops a0 L a w->Sep ops L a->wpAny P .any ops Q m L a w:=by
  intro m;induction m with
  | zero =>
   intro L a w hu k y hS;have:=kN hu n (by rw[y.size];omega);rw[k n (Uv _)]at this;cases this
  | succ m ih =>
   intro L a w hu k y hS;by_cases q:∀j,j<n->j ∉ late->on L j=true
   ·by_cases h8:∃j,j∈late/\on L j=false
    ·obtain⟨j,s,H⟩:=h8;obtain⟨ke,o,ho,hg,h6,k4,⟨p,op,k2,kd,k3⟩,h0,j',t,A,k0,k7,h5⟩:=kf j s;have I:∀x∈F.kill j',on L x=false:=λx hx=>by rw[k7]at hx;cases hx
     obtain⟨V,D,Y⟩:=y.all;have f:∀e∈o.after,VO .any e=true->on L e.on=true:=λe Z hb=>q _ (h0 e Z hb).1 (h0 e Z hb).2
     obtain⟨e,Z,U⟩:=XN.1 A;simp only[UK,beq_iff_eq]at U;have r:on L j'=true:=by rw[<-U.2];exact f e Z U.1
     obtain⟨u,k9,k5,k1⟩:=h5 (V j') w (Y j' r I);have k6:a.eval (.tmp t)=V j':=A7 (D j' t r k0);have X:=(UY.1 ho).1;have hz:L.getD j true=false:=by
      unfold on at H;rw[UH,UZ (by rw[y.size];exact X)]at H⊢;exact H
     have hq:∀i,on L i=true->i<n:=λi g=>by
      rcases Wp i n with h|h
      ·exact h
      ·rw[k i h]at g;cases g
     have J:=y.nx R ke hq ho H f k5 k9;have M:∀i,on (L.setIfInBounds j true) i=true->i≠j->on L i=true:=λi g B=>by
      rw[eC (by rw[y.size];exact X)]at g;rcases Xu _ _ ▸ g with g|g
      ·exact g
      ·exact absurd (by simpa using g:j=i).symm B
     have kc:Sep ops (L.setIfInBounds j true) (a.put o.dst u):=λi i2 di dj g k8 T E C z N=>by
      have h7:i≠j:=by rintro rfl;rw[h6]at E;cases E
      have hy:i2≠j:=by rintro rfl;rw[h6]at C;cases C
      have K:=hS i i2 di dj (M i g h7) (M i2 k8 hy) T E C z N;have G:∀i di O,i≠j->aX ops i=some di->o.dst=some O->O≠di:=λi di O B g hk e=>by
       subst e;exact B ((R.of ho).2 O hk |>.2 i g)
      cases hd:o.dst with
      | none=>exact K
      | some O=>rw[kC (G i di O h7 z hd),kC (G i2 dj O hy N hd)];exact K
     have hw:=ih (L.setIfInBounds j true) (a.put o.dst u) w (by have:=lN hz;omega) (λi g=>by
      rw[eC (by rw[y.size];exact X),k i g];simp only[yAc,beq_eq_false_iff_ne];omega) J kc
     refine anyS.any _ _ _ _ (anyS.first (S:=λ_ _=>True) (p:=p) ho kd k3 oM (λ_ _ _=>trivial) (Region.noSelect_spec hs) (λc a w h=>by
      cases hd:o.dst with
      | none=>rw[hd]at h;exact h
      | some t=>rw[hd]at h;exact hQ c a t u w h) m L a w ?_ (λi oi K B h9 ka=>k4 i oi K B (by
      rcases Wp i n with h|h
      ·by_cases ht:i∈late
       ·exact U3 ht
       ·have O:=q i h ht;have G:=(UY.1 K).1;unfold on at O;rw[UH,UZ (by rw[y.size];exact G)]at O h9;exact Bool.noConfusion (O.symm.trans h9)
      ·exact UW h) ka) (mem_ready.2 ⟨hz,o,ho,?_⟩) (U3 ⟨bI hg _,λW _=>k1 a W k6⟩) ⟨#[],by simp,yCl⟩ trivial (SU m _ _ _ hw))
     ·have:=k p k2;unfold on at this;exact this
     ·intro e Z hb;exact f e Z hb
    have r:∀j,j<n->on L j=true:=λj s=>by
     by_cases H:j∈late
     ·cases h:on L j with
      | true=>rfl
      | false=>exact absurd ⟨j,H,h⟩ h8
     ·exact q j s H
    have B:∀j,on L j=true↔j<n:=λj=>⟨λs=>(by
     rcases Wp j n with h|h
     ·exact h
     ·rw[k j h]at s;cases s),r j⟩
    obtain⟨V,D,Y⟩:=y.all;have U:=y.act R oM B D;have I:∀l:List Nat,l=[]->∀x∈l,on L x=false:=λl X x hx=>by rw[X]at hx;cases hx
    have M:=hp V w (λj s hk=>Y j (r j s) (I _ hk)) (λb hb=>y.base b (I _ hb)) (λi j g s T E C z A e=>by
     obtain⟨di,z⟩:=Vq.1 z;obtain⟨dj,A⟩:=Vq.1 A;refine hS i j di dj (r i g) (r j s) T E C z A ?_;rw[D i di (r i g) z,D j dj (r j s) A,e])
    rw[<-U]at M;exact zC (λi N O=>yG hc N O) kb _ L a w n (Uv _) oM y.size B hu M
   ·refine⟨λB=>?_,λi g=>?_⟩
    ·exact absurd (λj s _=>y.full R B j oM) q
    ·obtain⟨N,o,ho,f⟩:=mem_ready.1 g;have G:=(UY.1 ho).1;have K:on L i=false:=by
      unfold on;rw[UH]at N⊢;cases hh:L[i]? with
      | none=>rfl
      | some b=>rw[hh]at N;exact N
     have z:i<n:=by
      rcases Wp i n with h|h
      ·exact h
      ·exfalso;rcases Wp n i with O|O
       ·have:=gC ho f (yG hc O G);rw[k (i-1) oM]at this;cases this
       ·obtain rfl:i=n:=oM;refine q λj s H=>?_
        unfold yH at hc;rw[UK]at hc;have r:=U9.1 hc.1 j (VZ.2 s);rw[Xu]at r;replace r:=r.resolve_left (by simpa using H);unfold nC at r;rw[Xu]at r;rcases r with r|r
        ·exact gC ho f r
        ·obtain⟨x,hx,A⟩:=List.any_eq_true.1 r;rw[UK]at A;exact wQ y 4 x j (by have:=VZ.1 hx;omega) (gC ho f A.1) A.2
     refine wpOp_mono (λr w' J=>ih _ r w' (by have:=lN N;omega) (λj s=>?_) J.1 J.2) (stepS R hA z (λj s=>?_) ho K f y hS)
     ·rw[eC (by rw[y.size];exact G),k j s];simp only[yAc,beq_eq_false_iff_ne];omega
     ·rcases Wp j n with h|h
      ·exact h
      ·rw[k j h]at s;cases s
 have k:∀i,on (UI ops.size false) i=false:=λi=>by
  unfold on;rw[UH,Array.getElem?_replicate];by_cases h:i<ops.size
  ·rw[yCj h];rfl
  ·rw[yCk h];rfl
 refine wp_region_any hm (key _ _ a0 _ ?_ (λj _=>k j) ⟨Array.size_replicate,(λi o _ h=>by rw[k]at h;cases h),rfl,rfl,λ_ _=>rfl,⟨λ_=>undef,λi d h=>(by rw[k]at h;cases h),λi h=>(by rw[k]at h;cases h)⟩,λb _=>hB b⟩ (λi j di dj g=>by rw[k]at g;cases g));unfold unl;rw[Y3,List.countP_replicate];simp
theorem late1{G:Gw}{n:Nat}{late:List Nat}{j:Nat}(p m:Nat)(t:WB)(d:∀v w,G.R m v w->∃u,G.R j u w/\∀o,ops[j]? = some o->∀W,(dA [t] o,(U4 (evo λ_=>v) o).run P W)=(true,.ok (.value u) W))
 (z:(decide (j<n) && decide (n<=p) && waits ops p j && Region.free .any ops (lz ops.size n late) j && !rC ops j && (match ops[j]? with|some o=>o.guard.isNone && o.after.all (λe=>!VO .any e || (decide (e.on<n) && !late.contains e.on)) && dB o m|none=>false))=true:=by kernel_rfl) (hd:aX ops m=some t:=by kernel_rfl):LateP P G.flow ops n late j:=by
 simp only[UK,decide_eq_true_eq,yAT]at z;obtain⟨⟨⟨⟨⟨J,D⟩,g⟩,F⟩,H⟩,f⟩:=z;cases ho:ops[j]? with
 | none=>rw[ho]at f;cases f
 | some o =>
  rw[ho]at f;simp only[UK]at f;obtain⟨⟨I,A⟩,B⟩:=f;have C:o.guard=none:=by simpa using I
  refine⟨J,o,ho,C,H,λi E l x k r=>Region.free_spec ho F i E l x ?_ r,?_,λe c b=>?_,m,t,B,hd,rfl,λv w hv=>?_⟩
  ·have q:=(UY.1 l).1;unfold lz;rw[UH,Vf,Vy,List.getElem?_range q,Option.map_some,Option.getD_some];rcases k with k|k
   ·rw[List.contains_iff_mem.2 k,yBz,Bool.and_false]
   ·rw[decide_eq_false oM,Bool.false_and]
  ·unfold waits at g;cases q:ops[p]? with
   | none=>rw[q]at g;cases g
   | some op =>
    rw[q]at g;obtain⟨e,c,b⟩:=XN.1 g;simp only[UK,beq_iff_eq]at b;exact⟨p,op,D,q,e,c,b.1,b.2⟩
  ·have:=Array.all_eq_true'.1 A e c;rw[b,yBz,yAc,UK,decide_eq_true_eq,yAT]at this;exact⟨this.1,by simpa using this.2⟩
  ·obtain⟨u,q,y⟩:=d v w hv;refine⟨u,q,UQ _ _,λa W c=>?_⟩;have h:=y o ho W;rw[V5.injEq]at h;rw[iU (a:=a) (λ_=>v) [t] h.1 (λK s=>by rw[WL.1 s];exact c)];exact h.2
theorem Gw.late{id:Nat}(G:Gw)(n:Nat)(l:List Nat)(b:∀j∈l,LateP P G.flow ops n l j)(e:Als P G.flow ops n)(k:(decide (n<ops.size) && yH ops n l && XK ops)=true)(p:P.follows .mixedOrders=true)(q:Be ops a0.tmps.size=true)(h:iK P Q G.flow ops a0 0 (ops.toList.take n))(g:G.B w.drew)
 (f:∀(V:Nat->Us) (w':Uq),(∀i,i<n->G.R i (V i) w')->G.B w'->(∀i j,i<n->j<n->i≠j->rC ops i=true->rC ops j=true->(aX ops i).isSome=true->(aX ops j).isSome=true->V i≠V j)->wpList P ops Q (ops.toList.drop n) (bU V (ops.toList.take n) 0 a0) w') (d:∀c (a:Act) t v w,Q (.panic c) (a.put (some t) v) w->Q (.panic c) a w:=by exact λ_ _ _ _ _ h=>h):(V3 id ops true).wp P Q a0 w:=by
 rw[UK,UK,decide_eq_true_eq]at k;exact GL G.flow n l b d k.2 k.1.1 k.1.2 p (Gw.reg q h) e (λ_=>g) λV w' s m o=>f V w' (λi r=>s i r rfl) (m 0 rfl) o
end RG
section
section
variable {P:VC}{ops:Array Vj}{rest:List Vj}{op:Vj}{a a':Act}{w w':Uq}{Q:Yo->Act->Uq->Prop}{d:Option WB}{x v:Us}{t:WB}{T:U7}{b off:Nat}{cs:List Us}
theorem PW.begin{id:Nat}{l:List Vj}(h:wpList P l.toArray Q l a w):(V3 id l.toArray false).wp P Q a w:=wp_region_list h
theorem PW.dn(h:Q .normal a w):wpList P ops Q [] a w:=h
theorem PW.va(x:Us)(h:wpList P ops Q rest a' w)(hd:op.dst=d:=by rfl)(c:op.guard=none:=by rfl)(hv:(U4 a.eval op).run P w=.ok (.value x) w:=by kernel_rfl)(b:a.put d x=a':=by(simp only[UM,Ur,Ut,Uu])<;>rfl):wpList P ops Q (op :: rest) a w:=by
 subst b hd;exact Xf c λK k=>by
  unfold VS;rw[hv];exact k _ _ h
theorem PW.mv(h:wpList P ops Q rest a' w)(hd:op.dst=d:=by rfl)(c:op.guard=none:=by rfl)(k:op.op=.move (.tmp t):=by rfl)(hx:a.eval (.tmp t)=x:=by(conv=>lhs;whnf)<;>rfl)(b:a.put d x=a':=by(simp only[UM,Ur,Ut,Uu])<;>rfl):wpList P ops Q (op :: rest) a w:=
 PW.va x h hd c (by unfold U4;rw[k];dsimp only;rw[hx];rfl) b
theorem PW.ns{I:Sem Us}(hx:I.run P w=.ok x w')(h:wpList P ops Q rest a' w')(hd:op.dst=d:=by rfl)(c:op.guard=none:=by rfl)(e:U4 a.eval op=I >>= λv=>pure (Xo v):=by kernel_rfl)(b:a.put d x=a':=by(simp only[UM,Ur,Ut,Uu])<;>rfl):wpList P ops Q (op :: rest) a w:=by
 subst b hd;exact Xf c λK k=>by
  unfold VS;rw[e,UU,hx];exact k _ _ h
theorem PW.ca{f:Xp}{args:Array Us}{R:Us->Uq->Prop}(b:UG P f args w (Ret R))(h:∀e w',R e w'->wpList P ops Q rest (a.put d e) w')(hd:op.dst=d:=by rfl)(c:op.guard=none:=by rfl)(hx:(U4 a.eval op).run P w=.ok (.enter f args) w:=by kernel_rfl):wpList P ops Q (op :: rest) a w:=by
 subst hd;exact Xf c λK k=>by
  unfold VS;rw[hx,WX];refine b.mono ?_;rintro e w' ⟨v,rfl,hR⟩;exact k _ _ (h v w' hR)
theorem PW.gi{f:Xp}{args:Array Us}(k:UG P f args w (rZ w λe w'=>e=x))(h:∀w',kZ w w'->wpList P ops Q rest a' w')(hd:op.dst=d:=by rfl)(c:op.guard=none:=by rfl)(hx:(U4 a.eval op).run P w=.ok (.enter f args) w:=by kernel_rfl)(b:a.put d x=a':=by(simp only[UM,Ur,Ut,Uu])<;>rfl):wpList P ops Q (op :: rest) a w:=
 PW.ca k (λe w' hR=>by
  obtain⟨g,rfl⟩:=hR;subst b;exact h w' g) hd c hx
theorem PW.al{g:Nat}{b:Obj}(c:Hid (w.heap.size=g))(j:Hid (w.alloc b=w'))(h:wpList P ops Q rest a' w')(hd:op.dst=d:=by rfl)(k:op.guard=none:=by rfl)(f:(U4 a.eval op).run P w=.ok (.value (jZ w.heap.size)) (w.alloc b):=by kernel_rfl)(i:a.put d (jZ g)=a':=by(simp only[UM,Ur,Ut,Uu])<;>rfl):wpList P ops Q (op :: rest) a w:=by
 subst i hd;exact Xf k λK e=>by
  unfold VS;rw[f,c.out,j.out];exact e _ _ h
theorem PW.st(f:Hid (w.setCells b off cs=w'))(hv:Hid (.agg cs.toArray=v))(th:w.there b off cs.length)(c:(P.info? T).map (·.size)=some cs.length)(g:cs.toArray.all (·.oneCell')=true)(h:wpList P ops Q rest a' w')(hd:op.dst=none:=by rfl)(k:op.guard=none:=by rfl){y:XF}(ho:op.op=.store T (.tmp t) y:=by rfl)(hx:a.eval (.tmp t)=oZ b off:=by rfl)(d:a.eval y=v:=by rfl)(e:a.put none undef=a':=by(simp only[UM])<;>rfl):wpList P ops Q (op :: rest) a w:=
 U1 k T (.tmp t) y ho b off cs.toArray hx (d.trans hv.out.symm) th c g (by rw[show cs.toArray.toList=cs from rfl,f.out,hd,e];exact h)
theorem PW.ro(f:w.rangeAt b off cs)(hv:Hid (.agg cs.toArray=v))(c:(P.underlying T).map (·.isRow)=some true)(e:(P.info? T).map (·.size)=some cs.length)(h:wpList P ops Q rest a' w)(hd:op.dst=d:=by rfl)(k:op.guard=none:=by rfl)(ho:op.op=.load T (.tmp t):=by rfl)(hx:a.eval (.tmp t)=oZ b off:=by rfl)(i:a.put d v=a':=by(simp only[UM,Ur,Ut,Uu])<;>rfl):wpList P ops Q (op :: rest) a w:=by
 obtain⟨j,l,g⟩:=Ux.1 c;exact U5 k T (.tmp t) ho b off hx cs j f l g e (by rw[hv.out,hd,i];exact h)
theorem PW.ce(e:w.cell? ⟨b,off,none⟩=some x)(c:(P.underlying T).map (·.isRow)=some false)(h:wpList P ops Q rest a' w)(hd:op.dst=d:=by rfl)(k:op.guard=none:=by rfl)(ho:op.op=.load T (.tmp t):=by rfl)(hx:a.eval (.tmp t)=oZ b off:=by rfl)(f:a.put d x=a':=by(simp only[UM,Ur,Ut,Uu])<;>rfl):wpList P ops Q (op :: rest) a w:=
 PW.va x h hd k (by
  unfold U4;rw[ho];dsimp only;rw[hx,UU,fD e c];rfl) f
end
end
section
open SPA
variable {P:Nat}[NeZero P]{N:Nat}[NeZero N]
omit [NeZero N] in
theorem SLq.fin{Q:Nat->Prop}{W:Uq}{v:Us}{n:Nat}{a:Nat->Nat}(b:Nat->Fin N)(h:SLq Q W v n a)(e:∀i,i<n->a i=(b i).val):SLq Q W v n (λi=>(b i).val):=h.congr e
omit [NeZero N] in
theorem Ln.fin{Q:Nat->Prop}{W:Uq}{v:Us}{n:Nat}{a b:Nat->Nat}(c d:Nat->Fin N)(h:Ln Q W v n a b)(e:∀i,i<n->a i=(c i).val)(e':∀i,i<n->b i=(d i).val):Ln Q W v n (λi=>(c i).val) (λi=>(d i).val):=by
 obtain⟨x,y,f,k,g⟩:=h.ex;exact⟨x,y,f,k.congr e,g.congr e'⟩
theorem JZ(k:1<N)(v i:Nat):v/2^i%2=(btF N v i).val:=by
 exact(UR (Uw (V4 _ dC) k)).symm
theorem P8(k:1<N)(v i:Nat):sMi N (v/2^i%2) 1=(btF N v i-1).val:=by
 rw[I7,<-JZ k,show(1:Fin N).val=1 from UR k]
theorem RR(C:Fld P)(O:Ord N)(b:∀r:EC.Pt P,On r->mul N r=none)(f:IsP N)(n:Nat)(g:0<n)(D:n<=64)(a:Fin N)(l m:Nat->Fin N)(Gb X:Bs)(hG:wr (gG P)=Gb)(w:X=wP ((aD C b).ad ((aD C b).ac a (gPG C)) ((aD C b).ad ((aD C b).dt l (gPt C ⟨#[108,101,102,116]⟩) n) ((aD C b).dt m (gPt C ⟨#[114,105,103,104,116]⟩) n)))):
 ∃c lb,(∀W:Uq,UG prog 64 #[pvl Gb,nv a.val] W (rZ W λe w'=>Sm W.heap.size w' e c)) /\
  (∀(Q:Nat->Prop) (W:Uq) (v va d:Us),GRq Q W v n (gGT P) (hGT P) (uGT P)->SLq Q W va n (λi=>(l i).val)->SLq Q W d n (λi=>(m i).val)->UG prog 66 #[v,va,d] W (rZ W λe w'=>Sm W.heap.size w' e lb)) /\
  (∀(W:Uq) (s z:Us),Sm 0 W s c->Sm 0 W z lb->UG prog 65 #[s,z] W (rZ W λe w'=>Sm W.heap.size w' e (c++lb))) /\
  (∀(W:Uq) (v:Us),Sm 0 W v (c++lb)->UG prog 67 #[v] W (rZ W λe w'=>e=pvl X)):=by
 have j:=vE C f.1 n;have p:=nK C f.1 n;have c:=sN g (by decide:0<1) oM j p (mR C f.1) yBV (by show 1<=16;decide);have B:Gb.size=33:=by rw[<-hG];exact aT _
 have t0:Tl N [(a.val,Gb)] ((aD C b).ac a (gPG C)):=by rw[<-hG];exact Tl.pt C b a (gPG C)
 have t1:=(j.cmb C b l).1.app C b (p.cmb C b m).1;have x:(dH N (λi=>(l i).val) (gGT P) n++dH N (λi=>(m i).val) (hGT P) n).length=n+n:=by rw[Uz,(j.cmb C b l).2,(p.cmb C b m).2,Xh]
 have t2:=t0.app C b t1;refine⟨_,_,λW=>?_,λ_ W v va d q o y=>xJ O n 1 (gGT P) (hGT P) (uGT P) c _ _ (λi _=>(l i).isLt) (λi _=>(m i).isLt) v va d W q o y,λW s z q o=>cO 0 s z _ _ (by simp) (by simp) oM t0.ok.sz t1.ok.sz W (UW q) (UW o),λW v hv=>?_⟩
 ·refine(kU Gb B a.val W).mono ?_;rintro e W' ⟨u,rfl,t,k,rfl,c,hR⟩;exact⟨_,rfl,t,Sm.one hR c rfl⟩
 ·rw[w];exact t2.point C O b (by simp) (by rw[Uz,x];simp;omega) hv
theorem lV(k:1<N)(x:Fin N)(i:Nat):pwN N x.val i=(pwF x i).val:=(EF k x i).symm
theorem OH(k:IsP N)(b:2<N)(R:Rv N)(i:Nat):sPl N (sTi N R.z.val (pwN N R.y.val i)) (sTi N (sTi N R.z.val R.z.val) (pwN N 2 i))=(R.sh i).val:=by
 show _=(R.z*pwF R.y i+R.z*R.z*pwF (ofF N 2) i).val;rw[mA,fL,fL,fL,<-lV k.1,<-lV k.1,show(ofF N 2).val=2 from UR b]
def pLn(Q:Nat->Prop)(n:Nat)(a b:Nat->Nat):S1:=⟨λv w=>Ln Q w v n a b,λ_ _ _ k h=>h.keep (Kq.of_below k)⟩
omit [NeZero N] in
theorem xR(O:Ord N)(a b:Fin N)(W:Uq):UG prog 79 #[nv a.val,nv b.val] W (rZ W λe w'=>e=nv (a*b).val):=by
 rw[fL];exact iI O a.val b.val a.isLt b.isLt W
omit [NeZero N] in
theorem PL(O:Ord N)(a b:Fin N)(W:Uq):UG prog 80 #[nv a.val,nv b.val] W (rZ W λe w'=>e=nv (a+b).val):=by
 rw[mA];exact mY O a.val b.val a.isLt b.isLt W
theorem mP(O:Ord N)(k:IsP N){y:Fin N}{L:Bs}(h:y=kM N L):chS N L=y.val:=by
 rw[h];exact FD k.1 L (uU O _)
def Rf(b:Nat)(d f:Us)(L:Bs):S1:=⟨λv w=>∃r,v=.tuple #[lgV r,d,f]/\b<=r/\r<w.heap.size/\Holds encB w r 0 L,λ_ _ _ k ⟨r,i,e,c,g⟩=>⟨r,i,e,Uw c k.size,Holds.below g k c⟩⟩
def Re(b:Nat)(L:Bs):S1:=⟨λv w=>∃r,v=lgV r/\b<=r/\r<w.heap.size/\Holds encB w r 0 L,λ_ _ _ k ⟨r,f,d,c,e⟩=>⟨r,f,d,Uw c k.size,Holds.below e k c⟩⟩
theorem DF{W:Uq}{r k:Nat}{L:Bs}{u:Us}{cs:List Us}(h:Holds encB W r 0 L)(d:0<L.size)(g:Row W k (u :: cs))(e:∀b:UInt8,encB b≠u):r≠k:=by
 rintro rfl;have c:=(h 0 d).1;have f:=g.2.1 0 u rfl;rw[f]at c;exact e _ (Option.some.inj c).symm
theorem hG{α:Sort _}{p:Prop}(x:α)(h:∀y,Hid (x=y)->p):p:=h x rfl
structure RgA(B0 t:Nat)(p:Rp)(Lb Rb:Nat->Bs)(Ab Bb:Bs)(e:Us)(W:Uq):Prop where
 ex:∃a b c d u m s vL vR vA vB,e=.agg #[r33 a,r33 b,r33 c,r33 d,r32 u,r32 m,r32 s,vL,vR,vA,vB]/\RgT (λ_=>True) W p a b c d u m s/\TlL (λ_=>True) B0 t W vL Lb/\TlL (λ_=>True) B0 t W vR Rb/\ElQ (λ_=>True) 32 W vA Ab/\ElQ (λ_=>True) 32 W vB Bb
omit [NeZero N] [NeZero P] in
theorem RgA.set{i t k:Nat}{p:Rp}{o Rb:Nat->Bs}{v r:Bs}{e:Us}{W:Uq}{us vs:List Us}(h:RgA i t p o Rb v r e W)(A:Row W k (.slice none 0 0 :: vs))(O:k<i):RgA i t p o Rb v r e (W.setCells k 0 us):=by
 obtain⟨a,b,c,d,u,m,s,L,D,w,F,K,f,y,hR,z,E⟩:=h.ex;have kq:Kq (·≠k) W (W.setCells k 0 us):=Kq.set λg l=>l
 have el:∀ {m:Nat}{x:Us}{b:Bs},0<m->ElQ (λ_=>True) m W x b->ElQ (λ_=>True) m (W.setCells k 0 us) x b:=λJ hx=>((hx.off J A).keep kq).mono2 λ_ _ _=>trivial
 have q:∀ {n:Us}{B:Nat->Bs},TlL (λ_=>True) i t W n B->TlL (λ_=>True) i t (W.setCells k 0 us) n B:=λhx=>by
  obtain⟨xs,G,I⟩:=hx.ex;refine⟨xs,bZ G λg l=>aH k us 0 W g (by have:=(hx.lt l).1;omega),λj C=>?_⟩;obtain⟨x,H,M⟩:=I j C;exact⟨x,H,el dC M⟩
 exact⟨a,b,c,d,u,m,s,L,D,w,F,K,⟨el dC f.a,el dC f.b,el dC f.c,el dC f.d,el dC f.e,el dC f.f,el dC f.g⟩,q y,q hR,el dC z,el dC E⟩
theorem MK(C:Fld P)(k:∀r:EC.Pt P,On r->mul N r=none)(c:IsP N)(R:Rv N)(n:Nat):Gd N n 1 (oQ N R.y.val (hGT P)) (R.hh (aD C k) (gPt C ⟨#[114,105,103,104,116]⟩)):=by
 have g:=nK C c.1 n;refine⟨λi b=>?_,λi b=>by unfold oQ;rw[UP];exact g.len i b⟩;have h:=(g.tl i b).tm C k (pwF (ivF R.y) i);rw[<-lV c.1]at h;exact h
theorem Ma(C:Fld P)(O:Ord N)(k:∀r:EC.Pt P,On r->mul N r=none)(L:IsP N)(t:Nat)(ht:t<=6)(R:Rv N)(hn:R.n=2^t)(hv:R.v<18446744073709551616)(hN:18446744073709551616<=N)(sd:List UInt8)(sq:Option Wt)(sn sc:Nat)(V A S C1 C2 L3 L6 L8:Bs)(T:RvL C k R V A S C1 C2 L3 L6 L8)(hS:RvS R sd)(q:Md.Ps Bs (Fin N) (OnP P))(le:q.s=bB L8)(mw:q.a=R.a)(mf:q.b=R.b)(na:q.g=gPt C ⟨#[108,101,102,116]⟩)(o2:q.h=R.hh (aD C k) (gPt C ⟨#[114,105,103,104,116]⟩))(u:OnP P)(hu:u=(aD C k).ac R.w (uPt C))(Lb Rb:Nat->Bs)(ng:∀j,Lb j=wP ((aD C k).pLi (chF N) ivF u t q j))(oe:∀j,Rb j=wP ((aD C k).pTi (chF N) ivF u t q j))(Ab Bb:Bs)(o3:Ab=bx (((aD C k).pst (chF N) ivF u t q t).a 0).val)(mz:Bb=bx (((aD C k).pst (chF N) ivF u t q t).b 0).val)(pz:Rp)(M:Hid (⟨A,S,C1,C2,R.tau.val,R.mu.val,R.t.val⟩=pz))(w:Uq)(hp:PartOk w (.slice sq sn sc) sd):
 UG prog 18 #[uZ (R.v:Int),nv R.k.val,iZ (R.n:Int),.slice sq sn sc] w (rZ w λe w'=>∃f,w.heap.size<=f/\RgA f t pz Lb Rb Ab Bb e w'):=by
 obtain⟨vr,hr⟩:=hE (nv R.k.val);obtain⟨va,hk⟩:=hE (nv R.al.val);obtain⟨vh,hy⟩:=hE (nv R.rho.val);obtain⟨v1,hq⟩:=hE (nv R.t1.val);obtain⟨v2,ha⟩:=hE (nv R.t2.val);obtain⟨k5,ii⟩:=hE (w.heap.size);obtain⟨w1,jb⟩:=hE (w.alloc (.cells (wn R.k.val).toArray 49));obtain⟨k8,ln⟩:=hE (w1.heap.size);obtain⟨w2,ll⟩:=hE (w1.alloc (.cells z11.toArray 28));have K2:=mk1 (((Mp.start w).new ii jb).new ln ll);have B1:Hid ((Vd 49 vr).run prog w=.ok (jZ k5) w1):=by rw[<-hr.out,<-jb.out,<-ii.out];exact boxS _ w
 have n:R.n<=64:=by rw[hn];exact UB (Vz dC ht) dC
 have kj:Hid (∀W,kZ w W->PartOk W (.slice sq sn sc) sd):=λW hb=>hp.below hb
 obtain⟨g3,w3,lh,j8,i1⟩:=Bf O ⟨#[97,108,112,104,97]⟩ dC sd sq sn sc w2 (kj w2 K2.bl) hS.al;rw[hk.out]at i1;rw[hr.out];go_enter func18,ntmps18;refine Uy ?_;refine PW.begin ?_;refine PW.ns B1.out ?_;refine PW.al ln ll ?_;refine PW.dn ?_;refine Uy ?_;refine PW.begin ?_;refine PW.mv ?_;refine PW.ns lh.out ?_;refine PW.gi i1.out λw4 jg=>?_
 have K4:=mk1 ((K2.grow j8.out).grow jg);obtain⟨g5,w5,lc,lq,i5⟩:=Bf O ⟨#[114,104,111]⟩ dC sd sq sn sc w4 (kj w4 K4.bl) hS.rho;rw[hy.out]at i5;clear i1 jg j8 lh K2;refine PW.mv ?_;refine PW.ns lc.out ?_;refine PW.gi i5.out λw6 jy=>?_
 have K6:=mk1 ((K4.grow lq.out).grow jy);clear i5 lq jy lc K4;refine hG (w6.heap.size) λk9 lj=>?_
 refine hG (w6.alloc (.cells (RG.z 4).toArray 49)) λw7 jz=>?_
 refine hG w7.heap.size λm8 cy=>?_
 refine hG (w7.alloc (.cells (RG.z 4).toArray 49)) λw8 iu=>?_
 refine hG (w8.setCells k9 0 (wn R.al.val)) λw9 ip=>?_
 refine hG (w9.setCells m8 0 (wn R.rho.val)) λlx dw=>?_
 have K8:=mk1 ((K6.new lj jz).new cy iu);have K9:=mk1 (K8.put 2 ip);have fr:=mk1 (K9.put 3 dw);refine PW.al lj jz ?_;refine PW.al cy iu ?_;refine PW.st ip hk (K8.th 2) i40 (aM _) ?_;refine PW.st dw hy (K9.th 3) i40 (aM _) ?_;clear K6 K8 K9;refine PW.dn ?_;obtain⟨ov,p9,cu,ea,k2⟩:=Bf O ⟨#[116,97,117,49]⟩ dC sd sq sn sc lx (kj lx fr.bl) hS.t1;rw[hq.out]at k2;refine Uy ?_;refine PW.begin ?_;refine PW.mv ?_;refine PW.ns cu.out ?_;refine PW.gi k2.out λij d5=>?_
 have gg:=mk1 ((fr.grow ea.out).grow d5);obtain⟨om,oi,ex,eb,k4⟩:=Bf O ⟨#[116,97,117,50]⟩ dC sd sq sn sc ij (kj ij gg.bl) hS.t2;rw[ha.out]at k4;clear k2 ea d5 cu fr;refine PW.mv ?_;refine PW.ns ex.out ?_;refine PW.gi k4.out λjf d9=>?_
 have lg:=mk1 ((gg.grow eb.out).grow d9);clear k4 eb d9 ex gg;refine hG (jf.heap.size) λmm ds=>?_
 refine hG (jf.alloc (.cells (RG.z 4).toArray 49)) λlu f7=>?_
 refine hG lu.heap.size λma cx=>?_
 refine hG (lu.alloc (.cells (RG.z 4).toArray 49)) λme eo=>?_
 refine hG (me.setCells mm 0 (wn R.t1.val)) λn5 f6=>?_
 refine hG (n5.setCells ma 0 (wn R.t2.val)) λjv co=>?_
 have i7:=mk1 ((lg.new ds f7).new cx eo);have fy:=mk1 (i7.put 4 f6);have hm:=mk1 (fy.put 5 co);refine PW.al ds f7 ?_;refine PW.al cx eo ?_;refine PW.st f6 hq (i7.th 4) i40 (aM _) ?_;refine PW.st co ha (fy.th 5) i40 (aM _) ?_;clear lg i7 fy;refine PW.dn ?_;have jr:=mk1 (RI O R.v hv R.n n sd sq sn sc jv (kj jv hm.bl));refine Uy ?_;refine PW.begin ?_;refine PW.mv ?_;refine PW.mv ?_;refine PW.mv ?_;refine PW.ca jr.out ?_;rintro e l0 ⟨em,xl,yl,rfl,j5,jl⟩;clear jr;obtain⟨nj,ny,rfl,gt,g0⟩:=(j5.fin R.l R.s (λi _=>JZ L.1 R.v i) (λi _=>(hS.s i).symm)).ex;obtain⟨m6,my,rfl,i2,ib⟩:=(jl.fin R.m R.q (λi _=>P8 L.1 R.v i) (λi _=>(hS.q i).symm)).ex;clear j5 jl;have im:=mk1 ((((hm.gets em (pqS nj R.n λi=>(R.l i).val) gt).has (pqS ny R.n λi=>(R.s i).val) (g0.mono λg Z=>hm.nk g Z)).has (pqS m6 R.n λi=>(R.m i).val) (i2.mono λg Z=>hm.nk g Z)).has (pqS my R.n λi=>(R.q i).val) (ib.mono λg Z=>hm.nk g Z));obtain⟨kn,ko,kr,U⟩:=(bY gt).2;obtain⟨ka,kt,kf,B⟩:=(bY g0).2;obtain⟨kx,ky,kh,e3⟩:=(bY i2).2;obtain⟨b3,b5,kw,e4⟩:=(bY ib).2;subst U B e3 e4;clear gt g0 i2 ib em hm;simp only[UM,Ur,Ut,Uu];refine PW.mv ?_;refine PW.va (.agg #[.slice (some ⟨kn,ko,none⟩) R.n kr,.slice (some ⟨ka,kt,none⟩) R.n kf]) ?_;refine PW.va (.agg #[.slice (some ⟨kx,ky,none⟩) R.n kh,.slice (some ⟨b3,b5,none⟩) R.n kw]) ?_;refine hG (l0.heap.size) λbc ec=>?_
 refine hG (l0.alloc (.cells [.slice none 0 0,.slice none 0 0].toArray 126)) λlw en=>?_
 refine hG lw.heap.size λbp f8=>?_
 refine hG (lw.alloc (.cells [.slice none 0 0,.slice none 0 0].toArray 126)) λnn db=>?_
 refine hG (nn.setCells bc 0 [.slice (some ⟨kn,ko,none⟩) R.n kr,.slice (some ⟨ka,kt,none⟩) R.n kf]) λn9 ed=>?_
 refine hG (n9.setCells bp 0 [.slice (some ⟨kx,ky,none⟩) R.n kh,.slice (some ⟨b3,b5,none⟩) R.n kw]) λmj cf=>?_
 have i8:=mk1 ((im.new ec en).new f8 db);have gj:=mk1 (i8.put 6 ed);have jd:=mk1 (gj.put 7 cf);refine PW.al ec en ?_;refine PW.al f8 db ?_;refine PW.st ed (Hid.mk' rfl) (i8.th 6) iLi kR ?_;refine PW.st cf (Hid.mk' rfl) (gj.th 7) iLi kR ?_;clear im i8 gj;refine PW.dn ?_;have HG:=mk1 (xQ (P:=P) C R.n oM mj);refine Uy ?_;refine PW.begin ?_;refine PW.mv ?_;refine PW.ca HG.out ?_;rintro e oc ⟨dk,hG⟩;clear HG;obtain⟨q1,q2,q3,rfl,ja,jo,jc⟩:=hG.ex;obtain⟨ga,oa,ca,U⟩:∃g o c,q1=.slice (some ⟨g,o,none⟩) R.n c:=by obtain⟨g,o,c,h,-⟩:=ja;exact⟨g,o,c,h⟩
 obtain⟨gb,ob,cb,B⟩:∃g o c,q2=.slice (some ⟨g,o,none⟩) R.n c:=by obtain⟨g,o,c,h,-⟩:=jo;exact⟨g,o,c,h⟩
 obtain⟨gc,mc,cc,e3⟩:∃g m c,q3=sZ g m c:=by obtain⟨g,c,h,-⟩:=jc;exact⟨g,_,c,h⟩
 subst U B e3;have j6:=mk1 (jd.gets dk (pqG _ R.n (gGT P) (hGT P) (uGT P)) hG);clear hG ja jo jc dk jd;simp only[UM,Ur,Ut,Uu];have b4:=mk1 (NP (P:=P) C oc);refine hG (wr (gG P)) λGb bd=>?_
 have fb:Gb.size=33:=by rw[<-bd.out];exact aT _
 refine hG (pvl Gb) λvG hw=>?_
 rw[bd.out,hw.out]at b4;refine PW.gi b4.out λir df=>?_
 have ig:=mk1 (j6.grow df);clear b4 j6 df;refine hG (ir.heap.size) λnm cz=>?_
 refine hG (ir.alloc (.cells [.slice none 0 0,.slice none 0 0,.slice none 0 0].toArray 133)) λiw ei=>?_
 refine hG iw.heap.size λmt f0=>?_
 refine hG (iw.alloc (.cells z33.toArray 103)) λmn cp=>?_
 refine hG (mn.setCells nm 0 [.slice (some ⟨ga,oa,none⟩) R.n ca,.slice (some ⟨gb,ob,none⟩) R.n cb,sZ gc mc cc]) λn8 et=>?_
 refine hG (n8.setCells mt 0 (aA Gb)) λl9 er=>?_
 have fe:=mk1 ((ig.new cz ei).new f0 cp);have fk:=mk1 (fe.put 8 et);have lG:(aA Gb).length=z33.length:=aB fb;have lo:=mk1 (fk.put 9 er rfl lG);refine PW.al cz ei ?_;refine PW.al f0 cp ?_;refine PW.st et (Hid.mk' rfl) (fe.th 8) iGr kR ?_;refine PW.st er hw (fk.th 9 rfl lG) (by rw[aB fb];exact iCP) (bW _) ?_;clear ig fe fk;refine PW.dn ?_;refine hG (l9.heap.size) λl dp=>?_
 refine hG (l9.alloc (.cells rp0.l.toArray 137)) λoo ee=>?_
 have gw:=mk1 (lo.new dp ee);clear lo;refine Uy ?_;refine PW.begin ?_;refine PW.al dp ee ?_;refine PW.dn ?_;have gk:0<R.n:=by rw[hn];exact XH dC
 have sA:A.size=33:=by rw[T.eA];exact aT _
 have sS:S.size=33:=by rw[T.eS];exact aT _
 have iG:(prog.info? 103).map (·.size)=some (aA Gb).length:=by rw[aB fb];exact iCP
 obtain⟨la,lb,cT,cL,cP,cX⟩:=RR C O k L R.n gk n R.al R.l R.m Gb A bd.out T.eA;have HX:=mk4 cT cL cP cX;clear cT cL cP cX;rw[hk.out,hw.out]at HX;refine hG (pvl A) λvA hvA=>?_
 rw[hvA.out]at HX;refine Uy ?_;refine AW.beg 12 12 (Iv.mp w _ _ true) gw.out.drew ?_;refine AW.ro 0 (λW h=>(h.at_ 9).2.1) hw uCP iG ?_;refine AW.ro 1 (λW h=>(h.at_ 2).2.1) hk u40 i40 ?_;refine AW.ro 3 (cs:=[.slice (some ⟨ga,oa,none⟩) R.n ca,.slice (some ⟨gb,ob,none⟩) R.n cb,sZ gc mc cc]) (λW h=>(h.at_ 8).2.1) (Hid.mk' rfl) uGr iGr ?_;refine AW.va 4 (jZ bc) ?_;refine AW.ce 5 uSl (λW h=>(h.at_ 6).2.1 0 _ rfl) ?_;refine AW.va 6 (jZ bp) ?_;refine AW.ce 7 uSl (λW h=>(h.at_ 7).2.1 0 _ rfl) ?_;refine AW.ca 2 (λ_=>HX.1 _) (λe w' h=>h.1) ?_;rintro e pb ⟨d6,de⟩;simp only[UM,Ur,Ut,Uu];refine AW.ca 8 (λh=>HX.2.1 _ _ _ _ _ (h.get 4) (h.get 0) (h.get 2)) (λe w' h=>h.1) ?_;rintro B oq ⟨kd,ey⟩;simp only[UM,Ur,Ut,Uu];refine AW.ca 9 (λh=>HX.2.2.1 _ _ _ ((de.q.keep (Kq.of_below kd)).sm) ey.q.sm) (λe w' h=>h.1) ?_;rintro e3 ow ⟨dx,d7⟩;simp only[UM,Ur,Ut,Uu];refine AW.gi 10 (λh=>HX.2.2.2 _ _ d7.q.sm) λnz c9=>?_
 have gs:=mk1 ((((gw.drew.grow d6).grow kd).grow dx).grow c9);clear d6 kd dx c9 de ey d7 gw HX;refine AW.nx 11 (jZ l) ?_;refine hG (nz.setCells l 0 (aA A)) λol ku=>?_
 have c7:=mk1 (Rp.Tw Iy (gs.at_ 10) sA);refine hG ({ rp0 with a:=A }:Rp) λp1 fg=>?_
 rw[fg.out]at c7;have i9:=mk1 (gs.upd 10 ku c7.2.1);refine AW.fi (us:=aA A) hvA (bW A) (by rw[aB sA];exact iCP) (λ_=>⟨c7.1,?_⟩);rw[ku.out];clear gs ku;obtain⟨la,lb,cT,cL,cP,cX⟩:=RR C O k L R.n gk n R.rho R.s R.q Gb S bd.out T.eS;have HX:=mk4 cT cL cP cX;clear cT cL cP cX;rw[hy.out,hw.out]at HX;refine hG (pvl S) λvS ik=>?_
 rw[ik.out]at HX;refine Uy ?_;refine AW.beg 12 12 (Iv.mp w _ _ true) i9.out.drew ?_;refine AW.ro 0 (λW h=>(h.at_ 9).2.1) hw uCP iG ?_;refine AW.ro 1 (λW h=>(h.at_ 3).2.1) hy u40 i40 ?_;refine AW.ro 3 (cs:=[.slice (some ⟨ga,oa,none⟩) R.n ca,.slice (some ⟨gb,ob,none⟩) R.n cb,sZ gc mc cc]) (λW h=>(h.at_ 8).2.1) (Hid.mk' rfl) uGr iGr ?_;refine AW.va 4 (oZ bc 1) ?_;refine AW.ce 5 uSl (λW h=>(h.at_ 6).2.1 1 _ rfl) ?_;refine AW.va 6 (oZ bp 1) ?_;refine AW.ce 7 uSl (λW h=>(h.at_ 7).2.1 1 _ rfl) ?_;refine AW.ca 2 (λ_=>HX.1 _) (λe w' h=>h.1) ?_;rintro e os ⟨cg,cj⟩;simp only[UM,Ur,Ut,Uu];refine AW.ca 8 (λh=>HX.2.1 _ _ _ _ _ (h.get 4) (h.get 1) (h.get 3)) (λe w' h=>h.1) ?_;rintro B oy ⟨ke,cd⟩;simp only[UM,Ur,Ut,Uu];refine AW.ca 9 (λh=>HX.2.2.1 _ _ _ ((cj.q.keep (Kq.of_below ke)).sm) cd.q.sm) (λe w' h=>h.1) ?_;rintro e3 og ⟨d4,ck⟩;simp only[UM,Ur,Ut,Uu];refine AW.gi 10 (λh=>HX.2.2.2 _ _ ck.q.sm) λo8 es=>?_
 have g1:=mk1 ((((i9.drew.grow cg).grow ke).grow d4).grow es);clear cg ke d4 es cj cd ck i9 HX;refine AW.nx 11 (oZ l 33) ?_;refine hG (o8.setCells l 33 (aA S)) λkp kl=>?_
 have hs:=mk1 (Rp.sets c7.2.2 (g1.at_ 10) sS);refine hG ({ p1 with s:=S }:Rp) λp2 g2=>?_
 rw[g2.out]at hs;have b9:=mk1 (g1.upd 10 kl hs.2.1);refine AW.fi (us:=aA S) ik (bW S) (by rw[aB sS];exact iCP) (λ_=>⟨hs.1,?_⟩);rw[kl.out];clear g1 kl;refine hG (bB (bB L3)) λL5 fm=>?_
 have s5:L5.size=32:=by rw[<-fm.out];exact bE _ _
 have sV:V.size=33:=by rw[T.eV];exact aT _
 refine hG (U2 p2.l.toArray) λvp jw=>?_
 refine hG (pvl V) λvV l3=>?_
 refine hG (nv R.v) λvn j4=>?_
 refine hG (nv R.y.val) λvy Y=>?_
 refine hG (nv R.z.val) λvz h5=>?_
 have d8:Hid (∀W,UG prog 68 #[vp,vV,iZ (R.n:Int)] W (rZ W λe w'=>∃r,e=.tuple #[lgV r,vy,vz]/\W.heap.size<=r/\Holds encB w' r 0 L5)):=λW=>by
  have h:=NX O p2 hs.2.2 V sV R.n oM W;rw[show bgL V R.n p2.a p2.s=L3 by rw[<-g2.out,<-fg.out];exact T.l3.symm,mP O L T.y,mP O L T.z,fm.out,jw.out,l3.out,Y.out,h5.out]at h;exact h
 have f1:Hid (∀W,UG prog 69 #[vn,vr] W (rZ W λe w'=>e=vV)):=λW=>by
  have h:=oL C O (a:=R.v) (b:=R.k.val) oM R.k.isLt W;have e:(ofF N R.v).val=R.v:=UR oM;have B:=yB C k (ofF N R.v) R.k;rw[e]at B;rw[B,show wP ((aD C k).cm (hPV C) (gPG C) (ofF N R.v) R.k)=V from T.eV.symm,j4.out,hr.out,l3.out]at h;exact h
 have jq:Hid (∀W,UG prog 70 #[uZ (R.v:Int)] W (rZ W λe w'=>e=vn)):=λW=>by
  rw[<-j4.out];exact zW R.v hv W
 refine hG kp.heap.size λb hb=>?_
 have k6:∀ {W},kZ kp W->b<=W.heap.size:=λh=>hb.out ▸ h.size
 refine Uy ?_;refine(gwL [pE vp,pE (uZ (R.v:Int)),pE vn,pE vr,pE vV,pE (iZ (R.n:Int)),Rf b vy vz L5,Rf b vy vz L5,Re b L5,pE vy,pE vz,RG.pN b [.pointer none],RG.pN b (RG.z 4),RG.pN b (RG.z 4)] (λW=>kZ kp W) (λW W' hb h=>h.trans (hb.mono h.size))).late 14 [9,10] (λj hj=>by
  rcases VW.1 hj with rfl|hj
  ·exact late1 15 7 75 λv W ⟨r,e,_⟩=>⟨vy,rfl,λo ho W'=>by
    cases ho
    rw[e];kernel_rfl⟩
  ·obtain rfl:=WL.1 hj;exact late1 16 7 75 λv W ⟨r,e,_⟩=>⟨vz,rfl,λo ho W'=>by
    cases ho
    rw[e];kernel_rfl⟩) (Kc [11,12,13] ⟨al1 [.pointer none] 145 zS,al1 (RG.z 4) 49 zS,al1 (RG.z 4) 49 zS,yCl⟩) kR kR kR ⟨
  gLo (cs:=p2.l) 17 (λW f=>((b9.grow f).at_ 10).2.1) uRd (by rw[Rp.len hs.2.2];exact iRd) (hR:=λ_=>jw.out),
  gO 0 (uZ (R.v:Int)),
  oW 1 77 70 (λx=>#[x]) (λx W U f=>by
   obtain rfl:x=uZ (R.v:Int):=U;exact jq W),
  gLo (cs:=wn R.k.val) 5 (λW f=>((b9.grow f).at_ 0).2.1) u40 i40 (hR:=λ_=>hr.out),
  eD 2 78 3 79 69 (λx y=>#[x,y]) (λx u W U B f=>by
   obtain rfl:x=vn:=U;obtain rfl:u=vr:=B;exact f1 W),
  gO 2 (iZ (R.n:Int)),
  rG 0 76 4 80 5 81 68 (λx y z=>#[x,y,z]) (λx u z W U B e3 f=>by
   obtain rfl:x=vp:=U;obtain rfl:u=vV:=B;obtain rfl:z=iZ (R.n:Int):=e3;refine(d8 W).mono ?_;rintro e W' ⟨I,rfl,E,r,J,p,D⟩;exact⟨_,rfl,E,r,J,UB (k6 f) p,Holds.lt D (by rw[s5];decide),D⟩),
  DR 6 82 id (λx W h=>h),
  bN λa W hp=>by
   obtain⟨r,e,E,J,p⟩:=hp.n 7 75 kR kR;exact⟨[(75,.tuple #[lgV r,vy,vz])],lgV r,W,⟨e,yCl⟩,kR,UQ _ _,r,rfl,E,J,p⟩,
  bN λa W hp=>by
   obtain⟨r,e,E,J,p⟩:=hp.n 7 75 kR kR;exact⟨[(75,.tuple #[lgV r,vy,vz])],vy,W,⟨e,yCl⟩,kR,UQ _ _,rfl⟩,
  bN λa W hp=>by
   obtain⟨r,e,E,J,p⟩:=hp.n 7 75 kR kR;exact⟨[(75,.tuple #[lgV r,vy,vz])],vz,W,⟨e,yCl⟩,kR,UQ _ _,rfl⟩,
  xP [.pointer none] 145 (λW W' h f=>⟨_,rfl,k6 f,h⟩),
  xP (RG.z 4) 49 (λW W' h f=>⟨_,rfl,k6 f,h⟩),
  xP (RG.z 4) 49 (λW W' h f=>⟨_,rfl,k6 f,h⟩),yCl⟩ ⟨rfl,rfl,rfl,Uv _,λ_ _=>rfl⟩ ?_
 intro X o4 hR f hD;obtain⟨r,e8,lr,ji,Hr⟩:=hR 8 dC;have e9:X 9=vy:=hR 9 dC;have jp:X 10=vz:=hR 10 dC;obtain⟨kv,bu,g7,gn⟩:=hR 11 dC;obtain⟨ki,b8,f9,gz⟩:=hR 12 dC;obtain⟨kk,c8,i6,fs⟩:=hR 13 dC;have d1:=hD 11 12 dC dC dC kR kR kR kR;have d2:=hD 11 13 dC dC dC kR kR kR kR;have d3:=hD 12 13 dC dC dC kR kR kR kR;rw[bu,b8]at d1;rw[bu,c8]at d2;rw[b8,c8]at d3;have n1:kv≠ki:=λe=>d1 (by rw[e])
 have n2:kv≠kk:=λe=>d2 (by rw[e])
 have n3:ki≠kk:=λe=>d3 (by rw[e])
 have m1:r≠kv:=DF Hr (by rw[s5];decide) gn (λb e=>by cases e);have m2:r≠ki:=DF Hr (by rw[s5];decide) gz (λb e=>by cases e);have m3:r≠kk:=DF Hr (by rw[s5];decide) fs (λb e=>by cases e);rw[<-hb.out]at lr g7 f9 i6;have gp:=mk1 (b9.adds f [(kv,[.pointer none]),(ki,RG.z 4),(kk,RG.z 4),(r,aA L5)] (by simp;omega) (λx hx=>by
  simp only[VW,UX,or_false]at hx;rcases hx with rfl|rfl|rfl|rfl
  ·exact⟨g7,gn⟩
  ·exact⟨f9,gz⟩
  ·exact⟨i6,fs⟩
  ·exact⟨lr,pW Hr ji⟩))
 dsimp only[bU,VJ,Xk,Xl];simp only[UM,Ur,Ut,Uu];rw[e8,e9,jp,bu,b8,c8];clear hR hD d1 d2 d3 n1 n2 n3 m1 m2 m3 g7 f9 i6 lr ji Hr gn gz fs f e8 e9 jp bu b8 c8 b9 d8 f1 jq;refine hG (o4.setCells kv 0 [jZ r]) λo7 d0=>?_
 refine hG (o7.setCells ki 0 (wn R.y.val)) λnb dh=>?_
 refine hG (nb.setCells kk 0 (wn R.z.val)) λm5 f5=>?_
 have i0:=mk1 (gp.put 11 d0);have ff:=mk1 (i0.put 12 dh);have kg:=mk1 (ff.put 13 f5);refine PW.st d0 (Hid.mk' rfl) (gp.th 11) iLg kR ?_;refine PW.st dh Y (i0.th 12) i40 (aM _) ?_;refine PW.st f5 h5 (ff.th 13) i40 (aM _) ?_;clear gp i0 ff k6 hb;refine PW.dn ?_;have J:2<N:=oM;have fx:=mk1 (ED O J R.y.val R.z.val R.y.isLt R.z.isLt R.n oM m5);rw[Y.out,h5.out]at fx;refine Uy ?_;refine PW.begin ?_;refine PW.ro (kg.at_ 12).2.1 Y u40 i40 ?_;refine PW.ro (kg.at_ 13).2.1 h5 u40 i40 ?_;refine PW.mv ?_;refine PW.ca fx.out ?_;rintro e ly ⟨dl,ls,rs,rfl,bq,br⟩;clear fx;replace bq:=bq.fin (λ_=>-R.z) (λi _=>(I3 R.z).symm);replace br:=br.fin R.sh (λi _=>OH L J R i);have D:=mk1 ((kg.gets dl (pqS ls R.n λ_=>(-R.z).val) bq).has (pqS rs R.n λi=>(R.sh i).val) (br.mono λg Z=>kg.nk g Z));clear bq br dl kg;simp only[UM,Ur,Ut,Uu];refine PW.mv ?_;refine PW.va ls ?_;refine PW.va rs ?_;refine PW.va ls ?_;refine PW.va rs ?_;refine PW.dn ?_;obtain⟨Q,F⟩:=D.out.q;refine Uy ?_;refine(gwL [pE (.agg #[.slice (some ⟨kn,ko,none⟩) R.n kr,.slice (some ⟨ka,kt,none⟩) R.n kf]),pE ls,pLn Q R.n (λi=>(R.a0 i).val) (λi=>(R.s i).val),pE (.agg #[.slice (some ⟨kx,ky,none⟩) R.n kh,.slice (some ⟨b3,b5,none⟩) R.n kw]),pE vy,pE (iZ (R.n:Int)),RG.pS Q R.n (pwN N R.y.val),pLn Q R.n (λi=>sTi N (R.m i).val (pwN N R.y.val i)) (λi=>sTi N (R.q i).val (pwN N R.y.val i)),pE rs,pLn Q R.n (λi=>(R.b0 i).val) (λi=>(R.b1 i).val)] (λW=>kZ ly W) (λW W' hb h=>h.trans (hb.mono h.size))).tail2 10 kR kR kR ⟨
  gLo (cs:=[.slice (some ⟨kn,ko,none⟩) R.n kr,.slice (some ⟨ka,kt,none⟩) R.n kf]) 13 (λW f=>((D.grow f).at_ 6).2.1) uLi iLi,
  gO 21 ls,
  eD 0 93 1 94 72 (λx y=>#[x,y]) (λx u W U B f=>by
   obtain rfl:x=.agg #[.slice (some ⟨kn,ko,none⟩) R.n kr,.slice (some ⟨ka,kt,none⟩) R.n kf]:=U;obtain rfl:u=ls:=B;have K:=D.grow f;refine(ND O n (λi _=>(R.l i).isLt) (λi _=>(-R.z).isLt) (⟨_,_,rfl,K.uP F 0,K.uP F 1⟩:Ln Q W _ R.n _ _) (K.uP F 5)).mono ?_;rintro e W' ⟨I,rfl,E,J⟩;exact⟨_,rfl,E,(J.mono λg Z=>Z.elim id (K.nkq F g)).fin R.a0 R.s (λi _=>(mA (R.l i) (-R.z)).symm) (λ_ _=>rfl)⟩),
  gLo (cs:=[.slice (some ⟨kx,ky,none⟩) R.n kh,.slice (some ⟨b3,b5,none⟩) R.n kw]) 14 (λW f=>((D.grow f).at_ 7).2.1) uLi iLi,
  gLo (cs:=wn R.y.val) 19 (λW f=>((D.grow f).at_ 12).2.1) u40 i40 (hR:=λ_=>Y.out),
  gO 2 (iZ (R.n:Int)),
  eD 4 97 5 98 74 (λx y=>#[x,y]) (λx u W U B f=>by
   obtain rfl:x=vy:=U;obtain rfl:u=iZ (R.n:Int):=B;rw[<-Y.out];exact(Ny O R.y.val R.y.isLt R.n oM W).mono λe W' ⟨v,E,J,p⟩=>⟨v,E,J,p.mono λg Z=>(D.grow f).nkq F g Z⟩),
  eD 3 96 6 99 73 (λx y=>#[x,y]) (λx u W U B f=>by
   obtain rfl:x=.agg #[.slice (some ⟨kx,ky,none⟩) R.n kh,.slice (some ⟨b3,b5,none⟩) R.n kw]:=U;have K:=D.grow f;refine(RD O n (λi _=>(R.m i).isLt) (λi _=>(R.q i).isLt) (λi _=>wT O _ i) (⟨_,_,rfl,K.uP F 2,K.uP F 3⟩:Ln Q W _ R.n _ _) B).mono ?_;rintro e W' ⟨I,rfl,E,J⟩;exact⟨_,rfl,E,J.mono λg Z=>K.nkq F g Z⟩),
  gO 22 rs,
  eD 7 100 8 101 72 (λx y=>#[x,y]) (λx u W U B f=>by
   obtain rfl:u=rs:=B;have K:=D.grow f;refine(ND O n (λi _=>V4 _ O.pos) (λi _=>(R.sh i).isLt) U (K.uP F 6)).mono ?_;rintro e W' ⟨I,rfl,E,J⟩;refine⟨_,rfl,E,(J.mono λg Z=>Z.elim id (K.nkq F g)).fin R.b0 R.b1 (λi _=>?_) (λi _=>?_)⟩
   ·show _=(R.m i*pwF R.y i+R.sh i).val;rw[mA,fL,<-lV L.1];rfl
   ·show _=(R.q i*pwF R.y i).val;rw[fL,<-lV L.1]),yCl⟩ ⟨rfl,rfl,rfl,Uv _,λ_ _=>rfl⟩ ?_
 intro X m7 hR f;obtain⟨nh,nc,B,H,G⟩:=(hR 2 dC).ex;obtain⟨mh,ms,e9,fu,fq⟩:=(hR 9 dC).ex;have gm:=mk1 (((((D.grow f).MH F (pqS nh R.n λi=>(R.a0 i).val) H).MH F (pqS nc R.n λi=>(R.s i).val) G).MH F (pqS mh R.n λi=>(R.b0 i).val) fu).MH F (pqS ms R.n λi=>(R.b1 i).val) fq);obtain⟨bl,be,bk,e3⟩:=(bY H).2;obtain⟨bn,bm,bi,e4⟩:=(bY G).2;obtain⟨c6,c0,c3,e5⟩:=(bY fu).2;obtain⟨bf,c5,b6,e6⟩:=(bY fq).2;subst e3 e4 e5 e6;dsimp only[bU,VJ,Xk,Xl];simp only[UM,Ur,Ut,Uu];rw[B,e9];clear hR f H G fu fq B e9 D F;refine hG (m7.setCells bc 0 [.slice (some ⟨bl,be,none⟩) R.n bk,.slice (some ⟨bn,bm,none⟩) R.n bi]) λnu dm=>?_
 refine hG (nu.setCells bp 0 [.slice (some ⟨c6,c0,none⟩) R.n c3,.slice (some ⟨bf,c5,none⟩) R.n b6]) λk1 cq=>?_
 have ge:=mk1 (gm.put 6 dm);have K:=mk1 (ge.put 7 cq);refine PW.st dm (Hid.mk' rfl) (gm.th 6) iLi kR ?_;refine PW.st cq (Hid.mk' rfl) (ge.th 7) iLi kR ?_;clear gm ge;refine PW.dn ?_;refine hG (nv R.c1.val) λfh h7=>?_
 refine hG (nv R.c2.val) λi4 h6=>?_
 have l5:Hid (UG prog 75 #[.agg #[.slice (some ⟨bl,be,none⟩) R.n bk,.slice (some ⟨bn,bm,none⟩) R.n bi],.agg #[.slice (some ⟨c6,c0,none⟩) R.n c3,.slice (some ⟨bf,c5,none⟩) R.n b6]] k1 (rZ k1 λe w'=>e=.tuple #[fh,i4])):=by
  have h:=RH O n (λi _=>⟨(R.a0 i).isLt,(R.s i).isLt,(R.b0 i).isLt,(R.b1 i).isLt⟩) (⟨_,_,rfl,K.get 7,K.get 8⟩:Ln _ k1 _ R.n _ _) (⟨_,_,rfl,K.get 9,K.get 10⟩:Ln _ k1 _ R.n _ _);rw[kE,kE,kE,<-mA,show Md.pr R.a0 R.b1 R.n+Md.pr R.s R.b0 R.n=R.c1 from rfl,show Md.pr R.s R.b1 R.n=R.c2 from rfl,h7.out,h6.out]at h;exact h
 refine Uy ?_;refine PW.begin ?_;refine PW.ro (cs:=[.slice (some ⟨bl,be,none⟩) R.n bk,.slice (some ⟨bn,bm,none⟩) R.n bi]) (K.at_ 6).2.1 (Hid.mk' rfl) uLi iLi ?_;refine PW.ro (cs:=[.slice (some ⟨c6,c0,none⟩) R.n c3,.slice (some ⟨bf,c5,none⟩) R.n b6]) (K.at_ 7).2.1 (Hid.mk' rfl) uLi iLi ?_;refine PW.gi l5.out λil ci=>?_
 have ih:=mk1 (K.grow ci);clear l5 ci K;refine PW.mv ?_;refine PW.va fh ?_;refine PW.va i4 ?_;refine hG (il.heap.size) λmo f3=>?_
 refine hG (il.alloc (.cells (RG.z 4).toArray 49)) λix eu=>?_
 refine hG ix.heap.size λn7 dy=>?_
 refine hG (ix.alloc (.cells (RG.z 4).toArray 49)) λnl e7=>?_
 refine hG (nl.setCells mo 0 (wn R.c1.val)) λm9 eh=>?_
 refine hG (m9.setCells n7 0 (wn R.c2.val)) λoj ek=>?_
 have gq:=mk1 ((ih.new f3 eu).new dy e7);have fp:=mk1 (gq.put 15 eh);have ft:=mk1 (fp.put 16 ek);refine PW.al f3 eu ?_;refine PW.al dy e7 ?_;refine PW.st eh h7 (gq.th 15) i40 (aM _) ?_;refine PW.st ek h6 (fp.th 16) i40 (aM _) ?_;clear ih gq fp;refine PW.dn ?_;have sC:C1.size=33:=by rw[T.e1];exact aT _
 have sD:C2.size=33:=by rw[T.e2];exact aT _
 refine hG (pvl C1) λvC j3=>?_
 refine hG (pvl C2) λvD iz=>?_
 have li:Hid (∀W,UG prog 69 #[fh,v1] W (rZ W λe w'=>e=vC)):=λW=>by
  have h:=oL C O R.c1.isLt R.t1.isLt W;rw[yB C k R.c1 R.t1,show wP ((aD C k).cm (hPV C) (gPG C) R.c1 R.t1)=C1 from T.e1.symm,h7.out,hq.out,j3.out]at h;exact h
 have j2:Hid (∀W,UG prog 69 #[i4,v2] W (rZ W λe w'=>e=vD)):=λW=>by
  have h:=oL C O R.c2.isLt R.t2.isLt W;rw[yB C k R.c2 R.t2,show wP ((aD C k).cm (hPV C) (gPG C) R.c2 R.t2)=C2 from T.e2.symm,h6.out,ha.out,iz.out]at h;exact h
 refine Uy ?_;refine AW.beg 9 9 (Iv.mx w _ _ 10 l false) (ft.out.drew.wk 10) ?_;refine AW.ro 0 (λW ⟨_,h⟩=>(h.at_ 15).2.1) h7 u40 i40 ?_;refine AW.ro 1 (λW ⟨_,h⟩=>(h.at_ 4).2.1) hq u40 i40 ?_;refine AW.ro 3 (λW ⟨_,h⟩=>(h.at_ 16).2.1) h6 u40 i40 ?_;refine AW.ro 4 (λW ⟨_,h⟩=>(h.at_ 5).2.1) ha u40 i40 ?_;refine AW.gi 2 (λ_=>li _) λox cn=>?_
 refine AW.va 6 (oZ l 66) ?_;refine AW.gi 5 (λ_=>j2 _) λn0 ej=>?_
 have i3:=mk1 ((ft.drew.grow cn).grow ej);clear cn ej ft li j2;refine hG (n0.setCells l 66 (aA C1)) λmb ef=>?_
 refine hG (mb.setCells l 99 (aA C2)) λfl dq=>?_
 have k7:=mk1 (Rp.Tv hs.2.2 (i3.at_ 10) sC);refine hG ({ p2 with c:=C1 }:Rp) λp3 g8=>?_
 rw[g8.out]at k7;have bj:=mk1 (i3.upd 10 ef k7.2.1);have h0:=mk1 (Rp.Tu k7.2.2 (bj.at_ 10) sD);refine hG ({ p3 with d:=C2 }:Rp) λp4 g9=>?_
 rw[g9.out]at h0;have hl:=mk1 (bj.upd 10 dq h0.2.1);refine AW.ss 7 j3 (bW C1) (by rw[aB sC];exact iCP) ef (λ_=>⟨k7.1,bj.out.wk 10⟩) ?_;refine AW.nx 8 (oZ l 99) ?_;refine AW.ss 9 iz (bW C2) (by rw[aB sD];exact iCP) dq (λ_=>⟨h0.1,hl.out.wk 10⟩) ?_;refine AW.dn λ_=>?_
 clear i3 bj k7;refine hG (bB L6) λL7 ic=>?_
 have s7:L7.size=32:=by rw[<-ic.out];exact bE _ _
 refine hG (nv R.x.val) λvx p=>?_
 refine hG (U2 p4.l.toArray) λvq jt=>?_
 refine hG (lgV r) λvl h9=>?_
 have lv:Hid (UG prog 76 #[vq,vl] fl (Ret λe w'=>SP.Only r 0 32 fl w'/\Holds encB w' r 0 L7/\e=vx)):=by
  have h:=NC O p4 h0.2.2 r L5 fl (hl.log 14) s5;rw[<-fm.out,show mdL (bB (bB L3)) p4.c p4.d=L6 by rw[<-g9.out,<-g8.out];exact T.l6.symm,mP O L T.x,ic.out,jt.out,h9.out,p.out]at h;exact h
 refine Uy ?_;refine PW.begin ?_;refine PW.ro (cs:=p4.l) (hl.at_ 10).2.1 jt uRd (by rw[Rp.len h0.2.2];exact iRd) ?_;refine PW.ro (hl.at_ 11).2.1 h9 uLg iLg ?_;refine PW.ca lv.out ?_;rintro e l1 ⟨hO,hH,he⟩;obtain rfl:=he.symm;have ju:=mk1 (hl.say 14 hO hH);clear lv hO hH hl;simp only[UM,Ur,Ut,Uu];refine hG (l1.heap.size) λmd ep=>?_
 refine hG (l1.alloc (.cells (RG.z 4).toArray 49)) λmg eg=>?_
 refine hG (mg.setCells md 0 (wn R.x.val)) λpa cv=>?_
 have gv:=mk1 (ju.new ep eg);have gr:=mk1 (gv.put 17 cv);refine PW.al ep eg ?_;refine PW.st cv p (gv.th 17) i40 (aM _) ?_;clear ju gv;refine PW.dn ?_;have g6:Hid (∀(a b c:Nat->Fin N) (v:Us) (Q:Nat->Prop) (W:Uq),(∀i,c i=a i+b i*R.x)->Ln Q W v R.n (λi=>(a i).val) (λi=>(b i).val)->UG prog 77 #[v,vx] W (rZ W λe w'=>SLq (W.heap.size<=·) w' e R.n (λi=>(c i).val))):=λa b c v Q W hc h=>by
  have h:=RL O n (λi _=>(a i).isLt) (λi _=>(b i).isLt) R.x.isLt h;rw[p.out]at h;refine h.mono ?_;rintro e w' ⟨I,rfl,E,J⟩;exact⟨_,rfl,E,J.fin c λi _=>by rw[hc,mA,fL]⟩
 refine Uy ?_;refine AW.beg 7 7 (Iv.mp w _ _ false) gr.out.drew ?_;refine AW.ro 0 (cs:=[.slice (some ⟨bl,be,none⟩) R.n bk,.slice (some ⟨bn,bm,none⟩) R.n bi]) (λW h=>(h.at_ 6).2.1) (Hid.mk' rfl) uLi iLi ?_;refine AW.ro 1 (λW h=>(h.at_ 17).2.1) p u40 i40 ?_;refine AW.ro 3 (cs:=[.slice (some ⟨c6,c0,none⟩) R.n c3,.slice (some ⟨bf,c5,none⟩) R.n b6]) (λW h=>(h.at_ 7).2.1) (Hid.mk' rfl) uLi iLi ?_;refine AW.ro 4 (λW h=>(h.at_ 17).2.1) p u40 i40 ?_;refine AW.ca 2 (λh=>g6 R.a0 R.s R.a _ _ _ (λ_=>rfl) (⟨_,_,rfl,h.get 7,h.get 8⟩:Ln _ _ _ R.n _ _)) (λe w' h=>h.1) ?_;rintro av ou ⟨dz,jm⟩;simp only[UM,Ur,Ut,Uu];refine AW.ca 5 (λh=>g6 R.b0 R.b1 R.b _ _ _ (λ_=>rfl) (⟨_,_,rfl,h.get 9,h.get 10⟩:Ln _ _ _ R.n _ _)) (λe w' h=>h.1) ?_;rintro bv bt ⟨ct,l6⟩;simp only[UM,Ur,Ut,Uu];have iq:=mk1 (gr.drew.gets dz (pqS av R.n λi=>(R.a i).val) jm);have c4:=mk1 (iq.gets ct (pqS bv R.n λi=>(R.b i).val) l6);clear g6 dz ct jm l6 gr iq;refine AW.nx 6 av ?_;refine AW.nx 7 bv ?_;refine AW.dn λ_=>?_
 refine hG (nv R.t.val) λvt j9=>?_
 have jk:Hid (UG prog 78 #[av,bv] bt (rZ bt λe w'=>e=vt)):=by
  have h:=Bc O R.n oM (λi=>(R.a i).val) (λi=>(R.b i).val) (λi _=>(R.a i).isLt) (λi _=>(R.b i).isLt) av bv bt (c4.get 11) (c4.get 12);rw[kE,show Md.pr R.a R.b R.n=R.t from rfl,j9.out]at h;exact h
 refine Uy ?_;refine PW.begin ?_;refine PW.mv ?_;refine PW.mv ?_;refine PW.gi jk.out λo1 e0=>?_
 have fa:=mk1 (c4.grow e0);clear jk e0 c4;refine PW.va (oZ l 140) ?_;refine hG (o1.setCells l 140 (wn R.t.val)) λoh du=>?_
 have kb:=mk1 (Rp.Ts h0.2.2 (fa.at_ 10) R.t.val);refine hG ({ p4 with t:=R.t.val }:Rp) λp5 j7=>?_
 rw[j7.out]at kb;have fd:=mk1 (fa.upd 10 du kb.2.1);refine PW.st du j9 kb.1 i40 (aM _) ?_;clear fa h0;refine PW.dn ?_;refine hG (nv (R.t1*R.x).val) λu1 m4=>?_
 refine hG (nv (R.t2*R.x).val) λu2 mr=>?_
 refine hG (nv (R.t2*R.x*R.x).val) λu3 mq=>?_
 refine hG (nv (R.t1*R.x+R.t2*R.x*R.x).val) λu4 o5=>?_
 refine hG (nv (R.z*R.z).val) λu5 n6=>?_
 refine hG (nv (R.z*R.z*R.k).val) λu6 o6=>?_
 refine hG (nv R.tau.val) λu7 jx=>?_
 have HT:=mk7 (λW=>xR O R.t1 R.x W) (λW=>xR O R.t2 R.x W) (λW=>xR O (R.t2*R.x) R.x W) (λW=>PL O (R.t1*R.x) (R.t2*R.x*R.x) W) (λW=>xR O R.z R.z W) (λW=>xR O (R.z*R.z) R.k W) (λW=>PL O (R.t1*R.x+R.t2*R.x*R.x) (R.z*R.z*R.k) W);rw[show R.t1*R.x+R.t2*R.x*R.x+R.z*R.z*R.k=R.tau from rfl,m4.out,mr.out,mq.out,o5.out,n6.out,o6.out,jx.out,hq.out,ha.out,p.out,h5.out,hr.out]at HT;refine Uy ?_;refine AW.beg 16 16 (Iv.mp w _ _ true) fd.out.drew ?_;refine AW.ro 0 (λW h=>(h.at_ 4).2.1) hq u40 i40 ?_;refine AW.ro 1 (λW h=>(h.at_ 17).2.1) p u40 i40 ?_;refine AW.ro 3 (λW h=>(h.at_ 5).2.1) ha u40 i40 ?_;refine AW.ro 4 (λW h=>(h.at_ 17).2.1) p u40 i40 ?_;refine AW.ro 6 (λW h=>(h.at_ 17).2.1) p u40 i40 ?_;refine AW.ro 9 (λW h=>(h.at_ 13).2.1) h5 u40 i40 ?_;refine AW.ro 10 (λW h=>(h.at_ 13).2.1) h5 u40 i40 ?_;refine AW.ro 12 (λW h=>(h.at_ 0).2.1) hr u40 i40 ?_;refine AW.gi 2 (λ_=>HT.1 _) λx1 H=>?_
 refine AW.gi 5 (λ_=>HT.2.1 _) λx2 G=>?_
 refine AW.gi 7 (λ_=>HT.2.2.1 _) λx3 l4=>?_
 refine AW.gi 8 (λ_=>HT.2.2.2.1 _) λx4 l7=>?_
 refine AW.gi 11 (λ_=>HT.2.2.2.2.1 _) λx5 j0=>?_
 refine AW.gi 13 (λ_=>HT.2.2.2.2.2.1 _) λx6 jj=>?_
 refine AW.gi 14 (λ_=>HT.2.2.2.2.2.2 _) λn4 io=>?_
 have fj:=mk1 (((((((fd.drew.grow H).grow G).grow l4).grow l7).grow j0).grow jj).grow io);clear H G l4 l7 j0 jj io fd HT;refine AW.nx 15 (oZ l 132) ?_;refine hG (n4.setCells l 132 (wn R.tau.val)) λoz km=>?_
 have k3:=mk1 (Rp.Tr kb.2.2 (fj.at_ 10) R.tau.val);refine hG ({ p5 with u:=R.tau.val }:Rp) λp6 jh=>?_
 rw[jh.out]at k3;have fz:=mk1 (fj.upd 10 km k3.2.1);refine AW.fi (us:=wn R.tau.val) jx (aM _) i40 (λ_=>⟨k3.1,?_⟩);rw[km.out];clear fj kb km;refine hG (nv (R.rho*R.x).val) λu8 nq=>?_
 refine hG (nv R.mu.val) λu9 j1=>?_
 have HT:=mk2 (λW=>xR O R.rho R.x W) (λW=>PL O R.al (R.rho*R.x) W);rw[show R.al+R.rho*R.x=R.mu from rfl,nq.out,j1.out,hk.out,hy.out,p.out]at HT;refine Uy ?_;refine AW.beg 6 6 (Iv.mp w _ _ true) fz.out.drew ?_;refine AW.ro 0 (λW h=>(h.at_ 2).2.1) hk u40 i40 ?_;refine AW.ro 1 (λW h=>(h.at_ 3).2.1) hy u40 i40 ?_;refine AW.ro 2 (λW h=>(h.at_ 17).2.1) p u40 i40 ?_;refine AW.gi 3 (λ_=>HT.1 _) λx1 H=>?_
 refine AW.gi 4 (λ_=>HT.2 _) λo0 G=>?_
 have ia:=mk1 ((fz.drew.grow H).grow G);clear H G fz HT;refine AW.nx 5 (oZ l 136) ?_;refine hG (o0.setCells l 136 (wn R.mu.val)) λgu kz=>?_
 have kc:=mk1 (Rp.Tt k3.2.2 (ia.at_ 10) R.mu.val);have ez:Hid (({ p6 with m:=R.mu.val }:Rp)=pz):=by
  rw[<-M.out,<-jh.out,<-j7.out,<-g9.out,<-g8.out,<-g2.out,<-fg.out];rfl
 rw[ez.out]at kc;have hz:=mk1 (ia.upd 10 kz kc.2.1);have b7:pz.Ok:=kc.2.2;refine AW.fi (us:=wn R.mu.val) j1 (aM _) i40 (λ_=>⟨kc.1,?_⟩);rw[kz.out];clear ia k3 kc kz;refine hG (U2 pz.l.toArray) λnw h8=>?_
 refine hG (bB L8) λL9 bh=>?_
 have s9:L9.size=32:=by rw[<-bh.out];exact bE _ _
 refine hG (nv R.w.val) λvw bz=>?_
 have lm:Hid (UG prog 81 #[nw,vl] gu (Ret λe w'=>SP.Only r 0 32 gu w'/\Holds encB w' r 0 L9/\e=vw)):=by
  have h:=NR O pz b7 (by rw[<-M.out];exact R.tau.isLt) (by rw[<-M.out];exact R.mu.isLt) (by rw[<-M.out];exact R.t.isLt) r L7 gu (hz.log 14) s7;rw[<-ic.out,show enL (bB L6) pz.u pz.m pz.t=L8 by rw[<-M.out];exact T.l8.symm,mP O L T.w,bh.out,h8.out,h9.out,bz.out]at h;exact h
 refine Uy ?_;refine PW.begin ?_;refine PW.ro (cs:=pz.l) (hz.at_ 10).2.1 h8 uRd (by rw[Rp.len b7];exact iRd) ?_;refine PW.ro (hz.at_ 11).2.1 h9 uLg iLg ?_;refine PW.ca lm.out ?_;rintro e iy ⟨hO,hH,he⟩;obtain rfl:=he.symm;have ie:=mk1 (hz.say 14 hO hH);clear lm hO hH he hz;simp only[UM,Ur,Ut,Uu];refine hG (iy.heap.size) λm0 f4=>?_
 refine hG (iy.alloc (.cells (RG.z 4).toArray 49)) λni ew=>?_
 refine hG (ni.setCells m0 0 (wn R.w.val)) λnf da=>?_
 have gy:=mk1 (ie.new f4 ew);have np:=mk1 (gy.put 18 da);refine PW.al f4 ew ?_;refine PW.st da bz (gy.th 18) i40 (aM _) ?_;clear ie gy;refine PW.dn ?_;have Kd:=mk1 np.out.drew;have g4:=mk1 (H6 O R.n gk n (gGT P) (hGT P) (uGT P) (λi hi=>⟨((nK C L.1 R.n).tl i hi).ok,by show 1<=512;decide⟩) (mR C L.1).ok (by show 1<=512;decide) R.y.val R.w.val R.y.isLt R.w.isLt _ nf.drew Kd.nk (Kd.get 4));rw[Y.out,bz.out]at g4;refine Uy ?_;refine AW.beg 10 10 (Iv.mx w _ _ 14 r true) (Kd.out.wk 14) ?_;refine AW.ro 0 (cs:=pz.l) (λW ⟨_,h⟩=>(h.at_ 10).2.1) h8 uRd (by rw[Rp.len b7];exact iRd) ?_;refine AW.ro 1 (λW ⟨_,h⟩=>(h.at_ 11).2.1) h9 uLg iLg ?_;refine AW.ro 2 (cs:=[.slice (some ⟨ga,oa,none⟩) R.n ca,.slice (some ⟨gb,ob,none⟩) R.n cb,sZ gc mc cc]) (λW ⟨_,h⟩=>(h.at_ 8).2.1) (Hid.mk' rfl) uGr iGr ?_;refine AW.ro 3 (λW ⟨_,h⟩=>(h.at_ 12).2.1) Y u40 i40 ?_;refine AW.ro 4 (λW ⟨_,h⟩=>(h.at_ 18).2.1) bz u40 i40 ?_;refine AW.mv 6 ?_;refine AW.mv 7 ?_;refine AW.ca 5 (λ_=>g4.out) (λe w' h=>h.1) ?_;rintro tv ba ⟨dd,k0⟩;simp only[UM,Ur,Ut,Uu];have I:=mk1 (Kd.grow dd);refine hG (((aD C k).pst (chF N) ivF u t q t).s) λLx o9=>?_
 have jn:Hid (UG prog 83 #[vl,tv,av,bv] ba (Ret (PhR ba r t Lb Rb Lx Ab Bb))):=by
  obtain⟨Q,F⟩:=I.out.q;have E:∀g,Q g->g≠r:=I.ne F 14;rw[F.out]at k0;have h:=Mb C O k L t ht q u (gGT P) (oQ N R.y.val (hGT P)) ((uGT P).map (tmT N R.w.val)) (by rw[na];exact vE C L.1 _) (by rw[o2];exact MK C k L R _) (by rw[hu];exact(mR C L.1).tm C k R.w) (by show 0<1;decide) (by show 1<=16;decide) Lb Rb ng oe r tv av bv ba (by rw[le,bh.out];exact I.log 14) (by rw[le,bh.out];exact s9) (by rw[<-hn];exact k0.mono E) (by rw[<-hn,mw];exact SLq.mono (I.uP F 11) E) (by rw[<-hn,mf];exact SLq.mono (I.uP F 12) E);rw[o9.out,<-o3,<-mz,h9.out]at h;exact h
 clear g4 dd k0 Kd;refine AW.cw 8 (λ_=>jn.out) (λe w' _ h=>⟨_,I.say 14 h.on h.lg rfl rfl⟩) ?_;rintro e ml bg;obtain⟨vL,vR,vA,vB,rfl,tL,tR,eA,eB⟩:=bg.ex;have l2:=mk1 (I.say 14 bg.on bg.lg);have l8:=(I.at_ 1).1;clear jn bg;simp only[UM,Ur,Ut,Uu];have gh:=mk1 (Ox O pz b7 (by rw[<-M.out];exact R.tau.isLt) (by rw[<-M.out];exact R.mu.isLt) (by rw[<-M.out];exact R.t.isLt) vL vR vA vB ⟨tL.one.2,tR.one.2,eA.one.2,eB.one.2⟩ ml);rw[h8.out]at gh;refine AW.ca 9 (λ_=>gh.out) (λe w' h=>h.1) ?_;rintro e js ⟨E,ra,rb,rc,bb,re,rf,bs,rfl,hT⟩;simp only[UM,Ur,Ut,Uu];have fn:=mk1 (l2.grow E);have bo:vA.oneCell'=true/\vB.oneCell'=true/\vL.oneCell'=true/\vR.oneCell'=true:=⟨eA.one.2,eB.one.2,tL.one.2,tR.one.2⟩
 have RA:Hid (RgA ba.heap.size t pz Lb Rb Ab Bb (.agg #[r33 ra,r33 rb,r33 rc,r33 bb,r32 re,r32 rf,r32 bs,vL,vR,vA,vB]) js):=⟨_,_,_,_,_,_,_,_,_,_,_,rfl,hT.mono2 λ_ _ _=>trivial,tL.below E,tR.below E,(eA.keep (Kq.of_below E)).mono2 λ_ _ _=>trivial,(eB.keep (Kq.of_below E)).mono2 λ_ _ _=>trivial⟩
 clear hT tL tR eA eB E gh l2;refine hG (js.setCells k8 0 [r33 ra,r33 rb,r33 rc,r33 bb,r32 re,r32 rf,r32 bs,vL,vR,vA,vB]) λot b2=>?_
 have je:=mk1 (fn.put 1 b2);have RB:=mk1 (RA.set (us:=[r33 ra,r33 rb,r33 rc,r33 bb,r32 re,r32 rf,r32 bs,vL,vR,vA,vB]) (fn.at_ 1) l8);rw[b2.out]at RB;refine AW.fi (us:=[r33 ra,r33 rb,r33 rc,r33 bb,r32 re,r32 rf,r32 bs,vL,vR,vA,vB]) (Hid.mk' rfl) (by simp only[Ya,Zt,ZK,bo.1,bo.2.1,bo.2.2.1,bo.2.2.2,show ∀g,(r33 g).oneCell'=true from λ_=>rfl,show ∀g,(r32 g).oneCell'=true from λ_=>rfl,yBA]) iAr (λ_=>⟨fn.th 1,?_⟩);rw[b2.out];have KE:=mk2 je.bl (V0 I.bl.size RB.out);have K8:=je.at_ 1;refine wp_ret ?_;refine UD (aG 8 28 rfl K8 rfl uAr iAr) rfl ?_;exact⟨_,rfl,KE.1,_,KE.2.1,KE.2.2⟩
def Wd(n t:Nat):Prop:=n=2^t/\3<=t/\t<=6
theorem Wd.hv{n t:Nat}(h:Wd n t)(W:Uq):UG prog 57 #[iZ n] W (rZ W λe w'=>e=.tuple #[iZ t,.bool true]):=by
 obtain⟨rfl,-,k⟩:=h;rw[<-Pu t k];exact Px (2^t) (OT t k) W
theorem Wd.eight{n t:Nat}(h:Wd n t):8<=n:=by
 obtain⟨rfl,k,-⟩:=h;exact Vz (n:=2) dC k
theorem NH{n t:Nat}(h:Wd n t)(w:Uq):UG prog 15 #[iZ n] w (rZ w λe w'=>e=.bool true):=by
 have H:=mk1 (h.hv w);have d:(8:Int)<=(n:Int):=by have:=h.eight;omega
 clear h;go_enter func15,ntmps15;go_wp2_with fail
 refine H.mono ?_;rintro e f ⟨c,rfl,b,rfl⟩;have k:=mk1 b;go_wp2;go_ret;exact⟨_,rfl,k.out,rfl⟩
theorem Fh{n t:Nat}(h:Wd n t)(w:Uq):UG prog 17 #[iZ n] w (rZ w λe w'=>e=uZ ((2^n-1:Nat):Int)):=by
 obtain⟨rfl,c,b⟩:=h;have k:t=3\/t=4\/t=5\/t=6:=oM;rcases k with rfl|rfl|rfl|rfl
 all_goals
  go_enter func17,ntmps17;go_wp2;go_ret;exact⟨_,rfl,UQ _ _,rfl⟩
omit [NeZero N] in
theorem PO(O:Ord N)(a b:Fin N)(W:Uq):UG prog 131 #[nv a.val,nv b.val] W (rZ W λe w'=>e=nv (a-b).val):=by
 rw[I7];exact Dk O a.val b.val a.isLt b.isLt W
def rgD(n:Nat)(y z:Fin N):Fin N:=(z-z*z)*Md.pr (λ_=>1) (pwF y) n-z*z*z*ofF N (2^n-1)
theorem BZ(a:Bs)(d:a.size=33)(n:Nat)(w:Uq):UG prog 64 #[pvl a,nv n] w (rZ w λe w'=>Sm w.heap.size w' e [(n,a)]):=
 (kU a d n w).mono λ_ _ ⟨_,f,c,_,b,k,hR⟩=>⟨_,f,c,by rw[b];exact Sm.one hR k rfl⟩
theorem Lr(C:Fld P)(O:Ord N)(k:∀r:EC.Pt P,On r->mul N r=none)(hP:IsP N)(hN:18446744073709551616<=N){n t:Nat}(hw:Wd n t)(p:Rp)(ok:p.Ok)(V:Bs)(Vp P1 P2:OnP P)(hV:V=wP Vp)(h1:p.c=wP P1)(h2:p.d=wP P2)(tau tt x y z:Fin N)(hu:p.u=tau.val)(ht:p.t=tt.val)(w:Uq)(X Y:Bs)(hX:X=wP ((aD C k).cm (hPV C) (gPG C) (tt-rgD n y z) tau))(hY:Y=wP ((aD C k).ad ((aD C k).ad ((aD C k).ac (z*z) Vp) ((aD C k).ac x P1)) ((aD C k).ac (x*x) P2))):
 UG prog 122 #[.agg p.l.toArray,pvl V,iZ n,nv x.val,nv y.val,nv z.val] w (rZ w λe w'=>e=.bool (decide (X=Y))):=by
 have k5:n<=64:=by rw[hw.1];exact UB (Vz dC hw.2.2) dC
 have sV:V.size=33:=by rw[hV];exact aT _
 obtain⟨vp,hc⟩:=hE (U2 p.l.toArray);obtain⟨vV,E⟩:=hE (pvl V);obtain⟨vx,l⟩:=hE (nv x.val);obtain⟨vy,F⟩:=hE (nv y.val);obtain⟨vz,d⟩:=hE (nv z.val);obtain⟨vq,f⟩:=hE (nv (z*z).val);obtain⟨k6,hs⟩:=hE (w.heap.size);obtain⟨w1,h9⟩:=hE (w.alloc (.cells p.l.toArray 137));obtain⟨k7,hr⟩:=hE (w1.heap.size);obtain⟨w2,hk⟩:=hE (w1.alloc (.cells (aA V).toArray 103));obtain⟨k9,hj⟩:=hE (w2.heap.size);obtain⟨w3,ha⟩:=hE (w2.alloc (.cells (wn x.val).toArray 49));obtain⟨ki,K⟩:=hE (w3.heap.size);obtain⟨w4,k4⟩:=hE (w3.alloc (.cells (wn y.val).toArray 49));obtain⟨ke,L⟩:=hE (w4.heap.size);obtain⟨w5,kd⟩:=hE (w4.alloc (.cells (wn z.val).toArray 49));have K5:=mk1 (((((Mp.start w).new hs h9).new hr hk).new hj ha).new K k4 |>.new L kd);have B1:Hid ((Vd 137 vp).run prog w=.ok (jZ k6) w1):=by rw[<-hc.out,<-h9.out,<-hs.out];exact J2 ok w
 have B2:Hid ((Vd 103 vV).run prog w1=.ok (jZ k7) w2):=by rw[<-E.out,<-hk.out,<-hr.out];exact rM sV w1
 have B3:Hid ((Vd 49 vx).run prog w2=.ok (jZ k9) w3):=by rw[<-l.out,<-ha.out,<-hj.out];exact boxS _ w2
 have B4:Hid ((Vd 49 vy).run prog w3=.ok (jZ ki) w4):=by rw[<-F.out,<-k4.out,<-K.out];exact boxS _ w3
 have B5:Hid ((Vd 49 vz).run prog w4=.ok (jZ ke) w5):=by rw[<-d.out,<-kd.out,<-L.out];exact boxS _ w4
 rw[hc.out,E.out,l.out,F.out,d.out];go_enter func122,ntmps122;refine Uy ?_;refine PW.begin ?_;refine PW.ns B1.out ?_;refine PW.ns B2.out ?_;refine PW.ns B3.out ?_;refine PW.ns B4.out ?_;refine PW.ns B5.out ?_;refine PW.va (.bool false) ?_;refine PW.dn ?_;clear B1 B2 B3 B4 B5;have HQ:=mk1 (xR O z z w5);rw[d.out,f.out]at HQ;refine Uy ?_;refine PW.begin ?_;refine PW.ro (K5.at_ 4).2.1 d u40 i40 ?_;refine PW.ro (K5.at_ 4).2.1 d u40 i40 ?_;refine PW.gi HQ.out λw6 q=>?_
 have K6:=mk1 (K5.grow q);obtain⟨km,I⟩:=hE (w6.heap.size);obtain⟨w7,hp⟩:=hE (w6.alloc (.cells (RG.z 4).toArray 49));obtain⟨w8,hm⟩:=hE (w7.setCells km 0 (wn (z*z).val));have K7:=mk1 (K6.new I hp);have K8:=mk1 (K7.put 5 hm);refine PW.al I hp ?_;refine PW.st hm f (K7.th 5) i40 (aM _) ?_;clear K5 K6 K7 HQ q;refine PW.dn ?_;obtain⟨v1,k3⟩:=hE (nv 1);have HO:=mk1 (zW 1 dC w8);rw[k3.out]at HO;refine Uy ?_;refine PW.begin ?_;refine PW.gi HO.out λw9 hn=>?_
 have K9:=mk1 (K8.grow hn);obtain⟨kb,k0⟩:=hE (w9.heap.size);obtain⟨wA,k1⟩:=hE (w9.alloc (.cells (wn 1).toArray 49));have hi:Hid ((Vx 124 1 #[(0,v1)]).run prog w9=.ok (sZ kb 1 1) wA):=by rw[<-k3.out,<-k1.out,<-k0.out];exact SE 1 w9
 have FA:=aN k0 k1;refine PW.ns hi.out ?_;refine PW.mv ?_;refine PW.ca (IC 1 kb n oM wA FA.2) ?_;rintro ov wB ⟨k2,B⟩;simp only[UM,Ur,Ut,Uu];replace B:=B.fin (λ_=>(1:Fin N)) (λi _=>(UR hP.1).symm);have A:=mk1 ((K9.grow FA.1).gets k2 (pqS ov n λi=>((λ_=>(1:Fin N)) i).val) B);clear K8 K9 HO hn B k2 FA hi;refine PW.va ov ?_;refine PW.dn ?_;obtain⟨a1,kl⟩:=hE (nv (z-z*z).val);obtain⟨a2,T⟩:=hE (nv (Md.pr (λ_=>1) (pwF y) n).val);obtain⟨a3,kj⟩:=hE (nv ((z-z*z)*Md.pr (λ_=>1) (pwF y) n).val);obtain⟨a4,kg⟩:=hE (nv (z*z*z).val);obtain⟨a5,hy⟩:=hE (nv (ofF N (2^n-1)).val);obtain⟨a6,kf⟩:=hE (nv (z*z*z*ofF N (2^n-1)).val);obtain⟨a7,D⟩:=hE (nv (rgD n y z).val);have M:=mk5 (λW=>PO O z (z*z) W) (λW=>xR O (z-z*z) (Md.pr (λ_=>1) (pwF y) n) W) (λW=>xR O (z*z) z W) (λW=>xR O (z*z*z) (ofF N (2^n-1)) W) (λW=>PO O ((z-z*z)*Md.pr (λ_=>1) (pwF y) n) (z*z*z*ofF N (2^n-1)) W);rw[show(z-z*z)*Md.pr (λ_=>1) (pwF y) n-z*z*z*ofF N (2^n-1)=rgD n y z from rfl,kl.out,T.out,kj.out,kg.out,hy.out,kf.out,D.out,d.out,f.out]at M;have l2:2^n-1<18446744073709551616:=by
  have:=Vz (n:=2) dC k5;have:=XH (n:=n) (show 0<2 by decide);omega
 obtain⟨gi,ka⟩:=hE (2^n-1);have h0:Hid (∀W,UG prog 70 #[uZ gi] W (rZ W λe w'=>e=a5)):=λW=>by
  rw[<-hy.out,<-ka.out,show(ofF N (2^n-1)).val=2^n-1 from UR oM];exact zW _ l2 W
 have k8:Hid (∀W,UG prog 17 #[iZ n] W (rZ W λe w'=>e=uZ gi)):=λW=>by
  rw[<-ka.out];exact Fh hw W
 obtain⟨Q,hQ⟩:=A.out.q;refine Uy ?_;refine(gwL [pE vz,pE vq,pE a1,pE ov,pE vy,pE (iZ n),RG.pS Q n (λi=>(pwF y i).val),pE a2,pE a3,pE vq,pE vz,pE a4,pE (iZ n),pE (uZ gi),pE a5,pE a6,pE a7,RG.pN wB.heap.size (RG.z 4)] (λW=>kZ wB W) (λW W' hb h=>h.trans (hb.mono h.size))).tail2 18 kR kR kR ⟨
  gLo (cs:=wn z.val) 11 (λW c=>((A.grow c).at_ 4).2.1) u40 i40 (hR:=λ_=>d.out),
  gLo (cs:=wn (z*z).val) 13 (λW c=>((A.grow c).at_ 5).2.1) u40 i40 (hR:=λ_=>f.out),
  gC2 0 24 1 25 M.1,
  gO 14 ov,
  gLo (cs:=wn y.val) 10 (λW c=>((A.grow c).at_ 3).2.1) u40 i40 (hR:=λ_=>F.out),
  gO 2 (iZ n),
  eD 4 28 5 29 74 (λx y=>#[x,y]) (λa u W j m c=>by
   obtain rfl:a=vy:=j;obtain rfl:u=iZ n:=m;rw[<-F.out];exact(Ny O y.val y.isLt n oM W).mono λe W' ⟨v,h1,h2,G⟩=>⟨v,h1,h2,(G.mono λg o=>(A.grow c).nkq hQ g o).fin (pwF y) λi _=>lV hP.1 y i⟩),
  eD 3 27 6 30 78 (λx y=>#[x,y]) (λa u W j m c=>by
   obtain rfl:a=ov:=j;have h:=Bc O n oM (λi=>((λ_=>(1:Fin N)) i).val) (λi=>(pwF y i).val) (λi _=>(1:Fin N).isLt) (λi _=>(pwF y i).isLt) a u W ((A.grow c).uP hQ 0) m;rw[kE,T.out]at h;exact h),
  gC2 2 26 7 31 M.2.1,
  gLo (cs:=wn (z*z).val) 13 (λW c=>((A.grow c).at_ 5).2.1) u40 i40 (hR:=λ_=>f.out),
  gLo (cs:=wn z.val) 11 (λW c=>((A.grow c).at_ 4).2.1) u40 i40 (hR:=λ_=>d.out),
  gC2 9 33 10 34 M.2.2.1,
  gO 2 (iZ n),
  oW 12 36 17 (λx=>#[x]) (λa W j c=>by
   obtain rfl:a=iZ n:=j;exact k8 W),
  oW 13 37 70 (λx=>#[x]) (λa W j c=>by
   obtain rfl:a=uZ gi:=j;exact h0 W),
  gC2 11 35 14 38 M.2.2.2.1,
  gC2 8 32 15 39 M.2.2.2.2,
  xP (RG.z 4) 49 (λW W' h c=>⟨_,rfl,c.size,h⟩),yCl⟩ ⟨rfl,rfl,rfl,Uv _,λ_ _=>rfl⟩ ?_
 intro Z wC hR c;have h5:Z 16=a7:=hR 16 dC;obtain⟨kh,hq,he,U⟩:=hR 17 dC;dsimp only[bU,VJ,Xk,Xl];simp only[UM,Ur,Ut,Uu];rw[h5,hq];have KC:=mk1 (A.add c U he);obtain⟨wD,h6⟩:=hE (wC.setCells kh 0 (wn (rgD n y z).val));have KD:=mk1 (KC.put 6 h6);refine PW.st h6 D (KC.th 6) i40 (aM _) ?_;clear A KC hR c U he h5 hq M h0 k8 hQ;refine PW.dn ?_;have tV:Tl N [((z*z).val,V)] ((aD C k).ac (z*z) Vp):=by rw[hV];exact Tl.pt C k (z*z) Vp
 have t1:Tl N [(x.val,p.c)] ((aD C k).ac x P1):=by rw[h1];exact Tl.pt C k x P1
 have t2:Tl N [((x*x).val,p.d)] ((aD C k).ac (x*x) P2):=by rw[h2];exact Tl.pt C k (x*x) P2
 have t3:=tV.app C k t1;have t4:=t3.app C k t2;obtain⟨vc,hl⟩:=hE (pvl p.c);obtain⟨vd,h8⟩:=hE (pvl p.d);obtain⟨kr,h4⟩:=hE (nv (x*x).val);obtain⟨vY,hz⟩:=hE (pvl Y);have G:=mk7 (λW=>BZ V sV (z*z).val W) (λW=>BZ p.c ok.c x.val W) (λW=>BZ p.d ok.d (x*x).val W) (λW=>xR O x x W)
  (λ(W:Uq) (s u:Us) (a:Sm 0 W s [((z*z).val,V)]) (b:Sm 0 W u [(x.val,p.c)])=>cO 0 s u _ _ (by simp) (by simp) (by simp) tV.ok.sz t1.ok.sz W (UW a) (UW b))
  (λ(W:Uq) (s u:Us) (a:Sm 0 W s ([((z*z).val,V)]++[(x.val,p.c)])) (b:Sm 0 W u [((x*x).val,p.d)])=>cO 0 s u _ _ (by simp) (by simp) (by simp) t3.ok.sz t2.ok.sz W (UW a) (UW b))
  (λ(W:Uq) (s:Us) (a:Sm 0 W s ([((z*z).val,V)]++[(x.val,p.c)]++[((x*x).val,p.d)]))=>(by rw[hY];exact t4.point C O k (by simp) (by simp) a:UG prog 67 #[s] W (rZ W λe w'=>e=pvl Y)))
 rw[E.out,hl.out,h8.out,l.out,f.out,h4.out,hz.out]at G;have ip:∀ {b:Bs},b.size=33->(prog.info? 103).map (·.size)=some (aA b).length:=λh=>by rw[aB h];exact iCP
 refine Uy ?_;refine AW.beg 15 15 (Iv.mp w _ _ false) KD.out.drew ?_;refine AW.ro 0 (λW h=>(h.at_ 1).2.1) E uCP (ip sV) ?_;refine AW.ro 1 (λW h=>(h.at_ 5).2.1) f u40 i40 ?_;refine AW.va 3 (oZ k6 66) ?_;refine AW.ro 4 (λW h=>(Rp.at7 ok (h.at_ 0).2.1).2.2.1) hl uCP (ip ok.c) ?_;refine AW.ro 5 (λW h=>(h.at_ 2).2.1) l u40 i40 ?_;refine AW.va 8 (oZ k6 99) ?_;refine AW.ro 9 (λW h=>(Rp.at7 ok (h.at_ 0).2.1).2.2.2.1) h8 uCP (ip ok.d) ?_;refine AW.ro 10 (λW h=>(h.at_ 2).2.1) l u40 i40 ?_;refine AW.ro 11 (λW h=>(h.at_ 2).2.1) l u40 i40 ?_;refine AW.ca 2 (λ_=>G.1 _) (λe w' h=>h.1) ?_;rintro s1 x1 ⟨o,q1⟩;simp only[UM,Ur,Ut,Uu];refine AW.ca 6 (λ_=>G.2.1 _) (λe w' h=>h.1) ?_;rintro s2 x2 ⟨j,q2⟩;simp only[UM,Ur,Ut,Uu];refine AW.ca 7 (λ_=>G.2.2.2.2.1 _ _ _ (q1.q.keep (Kq.of_below j)).sm q2.q.sm) (λe w' h=>h.1) ?_;rintro s3 x3 ⟨m,q3⟩;simp only[UM,Ur,Ut,Uu];refine AW.gi 12 (λ_=>G.2.2.2.1 _) λx4 R=>?_
 refine AW.ca 13 (λ_=>G.2.2.1 _) (λe w' h=>h.1) ?_;rintro s5 x5 ⟨S,q5⟩;simp only[UM,Ur,Ut,Uu];refine AW.ca 14 (λ_=>G.2.2.2.2.2.1 _ _ _ ((q3.q.keep (Kq.of_below R)).keep (Kq.of_below S)).sm q5.q.sm) (λe w' h=>h.1) ?_;rintro s6 x6 ⟨q,q6⟩;simp only[UM,Ur,Ut,Uu];have KE:=mk1 (((((KD.drew.grow o).grow j).grow m).grow R).grow S |>.gets q (pqM s6 _) q6.q);clear o j m R S q q1 q2 q3 q5 q6 KD;refine AW.nx 15 s6 ?_;refine AW.dn λ_=>?_
 obtain⟨kp,J⟩:=hE (nv tt.val);obtain⟨ko,H⟩:=hE (nv tau.val);obtain⟨vm,kk⟩:=hE (nv (tt-rgD n y z).val);obtain⟨vX,kc⟩:=hE (pvl X);have HM:=mk2 (λW=>PO O tt (rgD n y z) W) (λW=>oL (P:=P) C O (tt-rgD n y z).isLt tau.isLt W);rw[yB C k (tt-rgD n y z) tau,show wP ((aD C k).cm (hPV C) (gPG C) (tt-rgD n y z) tau)=X from hX.symm,J.out,H.out,kk.out,kc.out,D.out]at HM;have sX:X.size=33:=by rw[hX];exact aT _
 have sY:Y.size=33:=by rw[hY];exact aT _
 have h7:Hid (∀W:Uq,(eqGuard .eql 103 (.tmp 62) (.tmp 64) vX vY >>= λ_=>binOp .eql 103 vX vY).run prog W=.ok (.bool (decide (X=Y))) W):=λW=>by
  rw[<-kc.out,<-hz.out,UU,show(eqGuard .eql 103 (.tmp 62) (.tmp 64) (pvl X) (pvl Y)).run prog W=.ok () W by kernel_rfl];exact NQ sX sY W
 refine Uy ?_;refine AW.beg 10 10 (Iv.mp w _ _ false) KE.out.drew ?_;refine AW.va 0 (oZ k6 140) ?_;refine AW.ro 1 (cs:=wn tt.val) (λW h=>by rw[<-ht];exact(Rp.at7 ok (h.at_ 0).2.1).2.2.2.2.2.2) J u40 i40 ?_;refine AW.ro 2 (λW h=>(h.at_ 6).2.1) D u40 i40 ?_;refine AW.va 4 (oZ k6 132) ?_;refine AW.ro 5 (cs:=wn tau.val) (λW h=>by rw[<-hu];exact(Rp.at7 ok (h.at_ 0).2.1).2.2.2.2.1) H u40 i40 ?_;refine AW.mv 7 ?_;refine AW.gi 3 (λ_=>HM.1 _) λx1 o=>?_
 refine AW.gi 6 (λ_=>HM.2 _) λx2 j=>?_
 refine AW.gi 8 (λh=>G.2.2.2.2.2.2 _ _ (SmQ.sm (h.get 1))) λx3 m=>?_
 have KF:=mk1 (((KE.drew.grow o).grow j).grow m);refine AW.ns 9 (h7 x3) (UQ _ _) ?_;refine AW.nx 10 (.bool (decide (X=Y))) ?_;refine AW.dn λ_=>?_
 clear o j m KE G HM h7;obtain⟨bb,kn⟩:=hE (decide (X=Y));rw[kn.out];go_wp2;go_ret;exact⟨_,rfl,KF.bl,rfl⟩
def rgS(y z:Fin N)(i:Nat):Fin N:=z*pwF y i+z*z*pwF (ofF N 2) i
theorem LR(k:IsP N)(b:2<N)(y z:Fin N)(i:Nat):sPl N (sTi N z.val (pwN N y.val i)) (sTi N (sTi N z.val z.val) (pwN N 2 i))=(rgS y z i).val:=by
 show _=(z*pwF y i+z*z*pwF (ofF N 2) i).val;rw[mA,fL,fL,fL,<-lV k.1,<-lV k.1,show(ofF N 2).val=2 from UR b]
theorem RS(C:Fld P)(O:Ord N)(k:∀r:EC.Pt P,On r->mul N r=none)(hP:IsP N)(hN:18446744073709551616<=N){n:Nat}(hw:0<n)(hy:n<=64)(p:Rp)(ok:p.Ok)(PA PS:OnP P)(hA:p.a=wP PA)(hS:p.s=wP PS)(mu tt x y z:Fin N)(hm:p.m=mu.val)(ht:p.t=tt.val)(G H:Nat->List (Nat × Bs))(U:List (Nat × Bs))(g h:Nat->OnP P)(u:OnP P)(hG:Gd N n 1 G g)(hH:Gd N n 1 H h)(hU:Tl N U u)(hq:U.length=1):
 ∃l,Tl N l ((aD C k).ad ((aD C k).ad ((aD C k).ad ((aD C k).ad PA ((aD C k).ac x PS)) ((aD C k).ac (-1) ((aD C k).ac mu (gPG C)))) ((aD C k).ad ((aD C k).dt (λ_=>-z) g n) ((aD C k).dt (rgS y z) h n))) ((aD C k).ac tt u))/\(0<l.length/\l.length<=150) /\
  ∀(Q:Nat->Prop) (V:Us) (w:Uq),GRq Q w V n G H U->UG prog 124 #[.agg p.l.toArray,V,iZ n,nv x.val,nv y.val,nv z.val] w (rZ w λe w'=>Sm w.heap.size w' e l):=by
 obtain⟨Gb,R⟩:=hE (wr (gG P));have sG:Gb.size=33:=by rw[<-R.out];exact aT _
 have tA:Tl N [(1,p.a)] PA:=by rw[hA];exact Tl.one C hP.1 PA
 have tS:Tl N [(x.val,p.s)] ((aD C k).ac x PS):=by rw[hS];exact Tl.pt C k x PS
 have tG:Tl N [(mu.val,Gb)] ((aD C k).ac mu (gPG C)):=by rw[<-R.out];exact Tl.pt C k mu (gPG C)
 have t1:=tA.app C k tS;have tM:=tG.tm C k (-1);rw[Rr hP.1]at tM;have t2:=t1.app C k tM;have tL:=(hG.cmb C k (λ_=>-z)).1.app C k (hH.cmb C k (rgS y z)).1;have lL:(dH N (λ_=>(-z).val) G n++dH N (λi=>(rgS y z i).val) H n).length=n+n:=by rw[Uz,(hG.cmb C k (λ_=>-z)).2,(hH.cmb C k (rgS y z)).2,Xh]
 have tU:=hU.tm C k tt;have lU:(U.map (tmT N tt.val)).length=1:=by rw[UP,hq]
 have t3:=t2.app C k tL;have t4:=t3.app C k tU;have hk:=sN hw (by decide:0<1) oM hG hH hU oM oM;refine⟨_,t4,⟨by simp,by simp only[Uz,UP,lL,lU,List.length_cons,List.length_nil]at *;omega⟩,λQ V w h0=>?_⟩;obtain⟨lb,B⟩:=hE (dH N (λ_=>(-z).val) G n++dH N (λi=>(rgS y z i).val) H n);obtain⟨lu,A⟩:=hE (U.map (tmT N tt.val));obtain⟨S,q⟩:=hE ([(1,p.a)]++[(x.val,p.s)]++[(mu.val,Gb)].map (tmT N (sMi N 0 1)));rw[q.out,B.out,A.out];have n2:S.length=3:=by rw[<-q.out];rfl
 rw[B.out]at tL lL;rw[A.out]at tU lU;rw[q.out]at t2;have X:=t2.app C k tL;have h2:2<N:=oM;obtain⟨vp,h6⟩:=hE (U2 p.l.toArray);obtain⟨vx,I⟩:=hE (nv x.val);obtain⟨vy,J⟩:=hE (nv y.val);obtain⟨vz,F⟩:=hE (nv z.val);obtain⟨vm,hb⟩:=hE (nv mu.val);obtain⟨vt,h1⟩:=hE (nv tt.val);obtain⟨vG,hu⟩:=hE (pvl Gb);obtain⟨va,hj⟩:=hE (pvl p.a);obtain⟨vs,Z⟩:=hE (pvl p.s);have K:=mk8 (λW=>AS p.a ok.a W) (λW=>BZ p.s ok.s x.val W) (λW=>BZ Gb sG mu.val W) (λW=>NP (P:=P) C W)
  (λ(W:Uq) (s u:Us) (a:Sm 0 W s [(1,p.a)]) (b:Sm 0 W u [(x.val,p.s)])=>cO 0 s u _ _ (by simp) (by simp) (by simp) tA.ok.sz tS.ok.sz W (UW a) (UW b))
  (λ(W:Uq) (s u:Us) (a:Sm 0 W s ([(1,p.a)]++[(x.val,p.s)])) (b:Sm 0 W u [(mu.val,Gb)])=>wH O 0 s u _ _ (by simp) (by simp) (by simp) t1.ok.sz tG.ok.sz tG.ok.lt W (Wx _) a b)
  (λ(W:Uq) (s u:Us) (a:Sm 0 W s S) (b:Sm 0 W u lb)=>cO 0 s u S lb (by rw[Uz];omega) oM oM t2.ok.sz tL.ok.sz W (UW a) (UW b))
  (λ(W:Uq) (s u:Us) (a:Sm 0 W s (S++lb)) (b:Sm 0 W u lu)=>cO 0 s u (S++lb) lu (by simp only[Uz];omega) (by rw[Uz];omega) oM X.ok.sz tU.ok.sz W (UW a) (UW b))
 rw[q.out,R.out,hu.out,hj.out,Z.out,I.out,hb.out]at K;have hs:Hid (∀(Q:Nat->Prop) (W:Uq) (v a b:Us),GRq Q W v n G H U->SLq Q W a n (λ_=>(-z).val)->SLq Q W b n (λi=>(rgS y z i).val)->UG prog 66 #[v,a,b] W (rZ W λe w'=>Sm W.heap.size w' e lb)):=λQ W v a b g1 g2 g3=>by
  rw[<-B.out];exact xJ O n 1 G H U hk _ _ (λi _=>(-z).isLt) (λi _=>(rgS y z i).isLt) v a b W g1 g2 g3
 have hp:Hid (∀(W:Uq) (v:Us),Sm 0 W v U->UG prog 164 #[v,vt] W (rZ W λe w'=>Sm W.heap.size w' e lu)):=λW v a=>by
  rw[<-A.out,<-h1.out];exact eG O tt.isLt 0 v U oM hU.ok.szm hU.ok.lt W a
 have he:=mk1 (λW=>ED O h2 y.val z.val y.isLt z.isLt n oM W);rw[J.out,F.out]at he;clear B A q tA tS tG t1 tM t2 tL tU t3 t4 X hk;obtain⟨q1,q2,q3,rfl,-,-,-⟩:=h0.ex;obtain⟨k6,hc⟩:=hE (w.heap.size);obtain⟨w1,h4⟩:=hE (w.alloc (.cells p.l.toArray 137));obtain⟨k7,ha⟩:=hE (w1.heap.size);obtain⟨Y,h9⟩:=hE (w1.alloc (.cells [q1,q2,q3].toArray 133));obtain⟨k9,h7⟩:=hE (Y.heap.size);obtain⟨w3,h5⟩:=hE (Y.alloc (.cells (wn x.val).toArray 49));obtain⟨hr,L⟩:=hE (w3.heap.size);obtain⟨w4,hi⟩:=hE (w3.alloc (.cells (wn y.val).toArray 49));obtain⟨hn,M⟩:=hE (w4.heap.size);obtain⟨w5,hl⟩:=hE (w4.alloc (.cells (wn z.val).toArray 49));have K0:=(Mp.start w).has (pqG (.agg #[q1,q2,q3]) n G H U) (h0.mono2 λg _ _ e=>by cases e);have K5:=mk1 ((((K0.new hc h4).new ha h9).new h7 h5).new L hi |>.new M hl);obtain⟨V,o⟩:=hE (U2 #[q1,q2,q3]);have B1:Hid ((Vd 137 vp).run prog w=.ok (jZ k6) w1):=by rw[<-h6.out,<-h4.out,<-hc.out];exact J2 ok w
 have B2:Hid ((Vd 133 V).run prog w1=.ok (jZ k7) Y):=by rw[<-o.out,<-h9.out,<-ha.out];exact CJ _ _ _ w1
 have B3:Hid ((Vd 49 vx).run prog Y=.ok (jZ k9) w3):=by rw[<-I.out,<-h5.out,<-h7.out];exact boxS _ Y
 have B4:Hid ((Vd 49 vy).run prog w3=.ok (jZ hr) w4):=by rw[<-J.out,<-hi.out,<-L.out];exact boxS _ w3
 have B5:Hid ((Vd 49 vz).run prog w4=.ok (jZ hn) w5):=by rw[<-F.out,<-hl.out,<-M.out];exact boxS _ w4
 rw[h6.out,o.out,I.out,J.out,F.out];rw[o.out]at K5;have ip:∀ {b:Bs},b.size=33->(prog.info? 103).map (·.size)=some (aA b).length:=λh=>by rw[aB h];exact iCP
 clear K0 h0;go_enter func124,ntmps124;refine Uy ?_;refine PW.begin ?_;refine PW.ns B1.out ?_;refine PW.ns B2.out ?_;refine PW.ns B3.out ?_;refine PW.ns B4.out ?_;refine PW.ns B5.out ?_;refine PW.va (.slice none 0 0) ?_;refine PW.dn ?_;clear B1 B2 B3 B4 B5;refine Uy ?_;refine AW.beg 13 13 (Iv.mp w _ _ false) K5.out.drew ?_;refine AW.va 0 (jZ k6) ?_;refine AW.ro 1 (λW h=>(Rp.at7 ok (h.at_ 0).2.1).1) hj uCP (ip ok.a) ?_;refine AW.va 3 (oZ k6 33) ?_;refine AW.ro 4 (λW h=>(Rp.at7 ok (h.at_ 0).2.1).2.1) Z uCP (ip ok.s) ?_;refine AW.ro 5 (λW h=>(h.at_ 2).2.1) I u40 i40 ?_;refine AW.va 9 (oZ k6 136) ?_;refine AW.ro 10 (cs:=wn mu.val) (λW h=>by rw[<-hm];exact(Rp.at7 ok (h.at_ 0).2.1).2.2.2.2.2.1) hb u40 i40 ?_;refine AW.ca 2 (λ_=>K.1 _) (λe w' h=>h.1) ?_;rintro s1 x1 ⟨t,e1⟩;simp only[UM,Ur,Ut,Uu];refine AW.ca 6 (λ_=>K.2.1 _) (λe w' h=>h.1) ?_;rintro s2 x2 ⟨f,e2⟩;simp only[UM,Ur,Ut,Uu];refine AW.ca 7 (λ_=>K.2.2.2.2.1 _ _ _ (e1.q.keep (Kq.of_below f)).sm e2.q.sm) (λe w' h=>h.1) ?_;rintro s3 x3 ⟨m,e3⟩;simp only[UM,Ur,Ut,Uu];refine AW.gi 8 (λ_=>K.2.2.2.1 _) λx4 d=>?_
 refine AW.ca 11 (λ_=>K.2.2.1 _) (λe w' h=>h.1) ?_;rintro s5 x5 ⟨j,e5⟩;simp only[UM,Ur,Ut,Uu];refine AW.ca 12 (λ_=>K.2.2.2.2.2.1 _ _ _ ((e3.q.keep (Kq.of_below d)).keep (Kq.of_below j)).sm e5.q.sm) (λe w' h=>h.1) ?_;rintro s6 x6 ⟨h8,e6⟩;simp only[UM,Ur,Ut,Uu];have KE:=mk1 (((((K5.drew.grow t).grow f).grow m).grow d).grow j |>.gets h8 (pqM s6 S) e6.q);clear t f m d j h8 e1 e2 e3 e5 e6 K5;refine AW.nx 13 s6 ?_;refine AW.dn λ_=>?_
 refine Uy ?_;refine AW.beg 16 16 (Iv.mp w _ _ false) KE.out.drew ?_;refine AW.mv 0 ?_;refine AW.ro 1 (λW h=>(h.at_ 1).2.1) o uGr iGr ?_;refine AW.ro 2 (λW h=>(h.at_ 3).2.1) J u40 i40 ?_;refine AW.ro 3 (λW h=>(h.at_ 4).2.1) F u40 i40 ?_;refine AW.mv 4 ?_;refine AW.va 10 (oZ k7 2) ?_;refine AW.ce 11 AB (λW h=>(h.at_ 1).2.1 2 _ rfl) ?_;refine AW.va 12 (oZ k6 140) ?_;refine AW.ro 13 (cs:=wn tt.val) (λW h=>by rw[<-ht];exact(Rp.at7 ok (h.at_ 0).2.1).2.2.2.2.2.2) h1 u40 i40 ?_;refine AW.ca 5 (λ_=>he _) (λe w' h=>h.1) ?_;rintro e y1 ⟨t,ls,rs,rfl,D,E⟩;simp only[UM,Ur,Ut,Uu];replace D:=D.fin (λ_=>-z) (λi _=>(I3 z).symm);replace E:=E.fin (rgS y z) (λi _=>LR hP h2 y z i);have T:=mk1 ((KE.drew.gets t (pqS ls n λ_=>(-z).val) D).has (pqS rs n λi=>(rgS y z i).val) (E.mono λg hg=>KE.drew.nk g hg));clear D E t;refine AW.va 6 ls ?_;refine AW.va 7 rs ?_;refine AW.ca 8 (λ_=>hs _ _ _ _ _ (T.get 0) (T.get 2) (T.get 3)) (λe w' h=>h.1) ?_;rintro s2 y2 ⟨f,e2⟩;simp only[UM,Ur,Ut,Uu];refine AW.ca 9 (λ_=>K.2.2.2.2.2.2.1 _ _ _ (SmQ.sm ((T.grow f).get 1)) e2.q.sm) (λe w' h=>h.1) ?_;rintro s3 y3 ⟨m,e3⟩;simp only[UM,Ur,Ut,Uu];have KG:=mk1 ((T.grow f).grow m);refine AW.ca 14 (λ_=>hp _ _ (by
  have hh:GRq _ y3 V n G H U:=KG.get 0;rw[<-o.out]at hh;obtain⟨a,b,c,e,-,-,h3⟩:=hh.ex;cases e
  exact h3.sm)) (λe w' h=>h.1) ?_
 rintro s4 y4 ⟨d,e4⟩;simp only[UM,Ur,Ut,Uu];refine AW.ca 15 (λ_=>K.2.2.2.2.2.2.2 _ _ _ (e3.q.keep (Kq.of_below d)).sm e4.q.sm) (λe w' h=>h.1) ?_;rintro s5 y5 ⟨j,e5⟩;simp only[UM,Ur,Ut,Uu];have KH:=mk1 ((KG.grow d).grow j);have E5:Hid (Sm w.heap.size y5 s5 (S++(lb++lu))):=by
  rw[<-List.append_assoc];exact e5.q.mono λg hg=>UB (KG.grow d).bl.size hg
 clear f m d j e2 e3 e4 e5 T KG KE;refine AW.nx 16 s5 ?_;refine AW.dn λ_=>?_
 go_wp2;go_ret;exact⟨_,rfl,KH.bl,E5.out⟩
end
namespace RG
variable {P:VC}{ops:Array Vj}{Q:Yo->Act->Uq->Prop}{w:Uq}{a0:Act}{G:Gw}{S:Uq->Uq->Prop}{B1:Uq->Prop}{m k:Nat}{o:Vj}
def Gw.lk(G:Gw)(m:Nat)(S:Uq->Uq->Prop)(k:Uq->Prop):Flow:=⟨G.R,λb=>if b=0 then G.B else k,λi w w'=>(i=m/\S w w')\/kZ w w',λ_=>[],λb=>if b=0 then [] else [m]⟩
theorem DJ(h:bF P Q G.flow ops a0 k o):bF P Q (G.lk m S B1) ops a0 k o:=λa w K f c e d=>h a w K f c (λb _=>e 0 rfl) λv w' hE hR=>d v w' (UW hE) hR
theorem TQ(h:∀(a:Act) (w:Uq),PreG G ops a0 m o a w->B1 w->∃(k:List (WB × Us)) (f:Xp) (args:Array Us),AllE a k/\(dA (k.map (·.1)) o,(U4 (evo (evl k)) o).run P w)=(true,.ok (.enter f args) w)/\UG P f args w (Ret λe w'=>S w w'/\G.R m e w'))(q:okK ops m [m]=true:=by kernel_rfl):bF P Q (G.lk m S B1) ops a0 m o:=by
 intro a w K t p c n;obtain⟨k,f,args,g,b,r⟩:=h a w ⟨λj d i hd=>t j d i rfl hd,p,c 0 rfl⟩ (c 1 q);simp only[V5.injEq]at b;unfold VS;rw[iU (evl k) (k.map (·.1)) b.1 g.ev,b.2,WX];refine r.mono ?_;rintro e w' ⟨v,rfl,s,l⟩;exact n _ _ (U3 ⟨rfl,s⟩) l
theorem Gw.tailL{id:Nat}(G:Gw)(m:Nat)(S:Uq->Uq->Prop)(d:Uq->Prop)(n:Nat)(s:∀j v w w',j≠m->S w w'->G.R j v w->G.R j v w')(o:∀w w',S w w'->G.B w->G.B w')(r:∀w w',kZ w w'->d w->d w')(l:(decide (n<ops.size) && mG ops n)=true)(y:P.follows .mixedOrders=true)(z:Be ops a0.tmps.size=true)(h:iK P Q (G.lk m S d) ops a0 0 (ops.toList.take n))(k:G.B w.drew)(g:d w.drew)
 (u:∀(V:Nat->Us) (w':Uq),(∀i,i<n->G.R i (V i) w')->G.B w'->wpList P ops Q (ops.toList.drop n) (bU V (ops.toList.take n) 0 a0) w'):(V3 id ops true).wp P Q a0 w:=by
 rw[UK,decide_eq_true_eq]at l;refine qF (G.lk m S d) n l.1 l.2 y ⟨z,tB h,λi j _ _ q _ _ v w w' hE hR=>?_,λi b _ c w w' hE k=>?_⟩ (λb=>?_) λV w' a x=>u V w' (λi f=>a i f rfl) (x 0 rfl)
 ·rcases hE with⟨f,p⟩|hE
  ·exact s j v w w' (λe=>q (f.trans e.symm)) p hR
  ·exact G.sR j v w w' hE hR
 ·unfold Gw.lk at c k⊢;dsimp only at c k⊢;by_cases t:b=0
  ·rw[yCj t]at k⊢;rcases hE with⟨-,p⟩|hE
   ·exact o w w' p k
   ·exact G.sB w w' hE k
  ·rw[yCk t]at k c⊢;rcases hE with⟨f,-⟩|hE
   ·rw[f]at c;simp at c
   ·exact r w w' hE k
 ·unfold Gw.lk;dsimp only;split
  ·exact k
  ·exact g
end RG
section
open SPA
def pX(b:Nat)(cs:List Us):S1:=⟨λv w=>∃k,v=jZ k/\b<=k/\Row w k cs/\∀i x,w.cell? ⟨k,i,none⟩=some x->x∈cs,λ_ w w' c ⟨k,g,e,d,f⟩=>⟨k,g,e,d.below c,λi x hx=>f i x (by rw[<-UV (a:=⟨k,i,none⟩) (c.block k d.1)];exact hx)⟩⟩
theorem Mk{b r:Nat}{cs:List Us}{v:Us}{W W':Uq}(c:SP.Only r 0 32 W W')(l:r<b)(h:(pX b cs).p v W):(pX b cs).p v W':=by
 obtain⟨k,j,f,d,g⟩:=h;have e:=c.block k d.1 oM;exact⟨k,j,f,aV d c.size e,λi x hx=>g i x (by rw[<-UV (a:=⟨k,i,none⟩) e];exact hx)⟩
theorem RX{P:VC}{c:Array Vj}{Q:Yo->Act->Uq->Prop}{a0:Act}{G:Gw}{k:Nat}{o:Vj}(b:Nat)(cs:List Us)(T:U7)(f:∀W,G.B W->b<=W.heap.size)(hR:∀v W,(pX b cs).p v W->G.R k v W)(d:∀W,(dA [] o,(U4 (evo (evl [])) o).run P W)=(true,.ok (.value (jZ W.heap.size)) (W.alloc (.cells cs.toArray T))):=by intro _;kernel_rfl):bF P Q G.flow c a0 k o:=
 bN λa W e=>⟨[],_,_,trivial,d W,aC W _,hR _ _ ⟨_,rfl,f W e.b,aE W cs T,λi x hx=>by
  rw[World.cell?_alloc_at _ _ _ _ rfl,Vf]at hx;exact VI hx⟩⟩
section
variable {Q:Nat->Prop}{W:Uq}{v:Us}{k n:Nat}{T G H:Nat->List (Nat × Bs)}{l U:List (Nat × Bs)}
theorem SmQ.offX(h:SmQ Q W v l)(e:0<l.length)(hx:∀i x,W.cell? ⟨k,i,none⟩=some x->x=.slice none 0 0):SmQ (λg=>Q g/\g≠k) W v l:=by
 obtain⟨g,c,j,f,n,m,d⟩:=h;refine⟨g,c,j,f,⟨n,?_⟩,m,d⟩;rintro rfl;match l,e with
 | (a,b) :: t,_=>cases hx _ _ (d 0 _ rfl)
theorem GLq.offX(h:GLq Q W v n T)(l:0<n)(r:∀j,j<n->0<(T j).length)(hx:∀i x,W.cell? ⟨k,i,none⟩=some x->x=.slice none 0 0):GLq (λg=>Q g/\g≠k) W v n T:=by
 obtain⟨g,o,c,t,m,q,p,f⟩:=h;refine⟨g,o,c,t,m,⟨q,?_⟩,p,λj d=>?_⟩
 ·rintro rfl;obtain⟨x,b,u,s,e,-⟩:=f 0 l;have:=hx _ _ b;rw[e]at this;cases this
 ·obtain⟨x,b,s⟩:=f j d;exact⟨x,b,s.offX (r j d) hx⟩
theorem GRq.offX(h:GRq Q W v n G H U)(b:0<n)(hG:∀j,j<n->0<(G j).length)(p:∀j,j<n->0<(H j).length)(c:0<U.length)(hx:∀i x,W.cell? ⟨k,i,none⟩=some x->x=.slice none 0 0):GRq (λg=>Q g/\g≠k) W v n G H U:=by
 obtain⟨f,l,d,q,e,o,m⟩:=h.ex;exact⟨f,l,d,q,e.offX b hG hx,o.offX b p hx,m.offX c hx⟩
end
theorem Mp.sayAdd{w W W':Uq}{f d:List (Nat × List Us)}{S:List Pq}{k r:Nat}{c:List Us}{L m:Bs}(h:Mp w W f S)(i:Nat)(o:SP.Only r 0 32 W W')(v:Holds encB W' r 0 m)(z:Row W' k c)(y:W.heap.size<=k)(j:f[i]? = some (r,aA L):=by rfl)(e:f.set i (r,aA m)++[(k,c)]=d:=by(simp only[Ut,Uu,WY,Xq])<;>rfl):Mp w W' d S/\∀g,Nk f g->g≠k->Nk d g:=by
 subst e;have p:∀g,Nk (f.set i (r,aA m)++[(k,c)]) g↔Nk f g/\g≠k:=λg=>by
  unfold Nk;rw[V9,Mp.keys j,Wy];simp
 refine⟨?_,λg l q=>(p g).2 ⟨l,q⟩⟩;have l:=h.say i o v j rfl;have C:=h.lt (Mp.key j);refine⟨l.bl,λx hx=>?_,?_,λs u=>?_⟩
 ·rcases Wy.1 hx with hx|hx
  ·exact l.rw x hx
  ·rw[WL.1 hx];exact⟨UB h.bl.size y,z⟩
 ·rw[V9,YW];refine⟨l.nd,by simp,λa t b n e=>?_⟩;rw[Mp.keys j]at t;have q:=(h.lt t).2;simp at n;omega
 ·refine s.kp _ W _ ⟨o.size,λg n B=>o.block g B λe=>((p g).1 n).1 (by rw[e];exact Mp.key j)⟩ (s.mo _ _ _ (λg n t=>(p g).2 ⟨t,oM⟩) (h.ob s u))
variable {P:Nat}[NeZero P]{N:Nat}[NeZero N]
theorem Jr(C:Fld P)(k:∀r:EC.Pt P,On r->mul N r=none)(c:IsP N)(y:Fin N)(n:Nat):Gd N n 1 (oQ N y.val (hGT P)) (λi=>(aD C k).ac (pwF (ivF y) i) (gPt C ⟨#[114,105,103,104,116]⟩ i)):=by
 have g:=nK C c.1 n;refine⟨λi b=>?_,λi b=>by unfold oQ;rw[UP];exact g.len i b⟩;have h:=(g.tl i b).tm C k (pwF (ivF y) i);rw[<-lV c.1]at h;exact h
end
section
open SPA
section
variable {P:VC}{ops:Array Vj}{Q:Yo->Act->Uq->Prop}{p r:Nat}{J:Iv}{i fuel:Nat}{o:Vj}{listed:Array Bool}{a a':Act}{w w':Uq}{d:Option WB}{x v:Us}{t:WB}{T:U7}{b off:Nat}{cs:List Us}
theorem AG.ro(i:Nat)(s:∀W,J.p W->W.rangeAt b off cs)(hv:Hid (.agg cs.toArray=x))(q:(P.underlying T).map (·.isRow)=some true)(u:(P.info? T).map (·.size)=some cs.length)(h:AW P ops Q p r J fuel (listed.setIfInBounds i true) a' w)(ho:ops[i]? = some o:=by(simp only[Vf,U8,Ve])<;>rfl)(hd:o.dst=d:=by rfl)(j:V1 o (yielded ops a.tmps)=true:=by kernel_rfl)(k:o.op=.load T (.tmp t):=by rfl)(hx:a.eval (.tmp t)=oZ b off:=by rfl)
 (n:a.put d x=a':=by(simp only[UM,Ur,Ut,Uu])<;>rfl) (g:aw1 ops p r (qw ops J.b p r i) i listed=true:=by kernel_rfl) (e:∀c a w,Q (.panic c) (a.put o.dst x) w->Q (.panic c) a w:=by exact λ_ _ _ h=>h):AW P ops Q p r J (fuel+1) listed a w:=by
 obtain rfl:=hv.out;obtain⟨l,v,m⟩:=Ux.1 q;exact AW.take i (qw ops J.b p r i) ho hd (yieldsIf_load_mid j T (.tmp t) k b off hx cs l (λw f=>s w (Sa.bel f)) v m u) n g e h
theorem AG.mv(i:Nat)(h:AW P ops Q p r J fuel (listed.setIfInBounds i true) a' w)(ho:ops[i]? = some o:=by(simp only[Vf,U8,Ve])<;>rfl)(hd:o.dst=d:=by rfl)(g:V1 o (yielded ops a.tmps)=true:=by kernel_rfl)(k:o.op=.move (.tmp t):=by rfl)(hx:a.eval (.tmp t)=x:=by(conv=>lhs;whnf)<;>rfl)
 (f:a.put d x=a':=by(simp only[UM,Ur,Ut,Uu])<;>rfl) (b:aw1 ops p r (fw ops i) i listed=true:=by kernel_rfl) (e:∀c a w,Q (.panic c) (a.put o.dst x) w->Q (.panic c) a w:=by exact λ_ _ _ h=>h):AW P ops Q p r J (fuel+1) listed a w:=
 AW.take i (fw ops i) ho hd (U3 ⟨g,λw _=>by unfold U4;rw[k];dsimp only;rw[hx];rfl⟩) f b e h
theorem AG.cw(i:Nat){f:Xp}{args:Array Us}{R:Us->Uq->Prop}(l:J.p w->UG P f args w (Ret R))(hR:∀e w',J.p w->R e w'->J.p w')(h:∀e w',R e w'->AW P ops Q p r J fuel (listed.setIfInBounds i true) (a.put d e) w')(ho:ops[i]? = some o:=by(simp only[Vf,U8,Ve])<;>rfl)(hd:o.dst=d:=by rfl)(g:V1 o (yielded ops a.tmps)=true:=by kernel_rfl)(hx:(U4 a.eval o).run P w=.ok (.enter f args) w:=by kernel_rfl)(c:U6 .any ops listed=[i]:=by kernel_rfl):AW P ops Q p r J (fuel+1) listed a w:=λb=>by
 subst hd;exact anyS.step ho c λK j=>by
  rw[yCj g];unfold VS;rw[hx,WX];refine(l b).mono ?_;rintro e w' ⟨v,rfl,k⟩;exact j.out _ _ (UW (hR v w' b k)) (h v w' k (hR v w' b k))
end
variable {P:Nat}[NeZero P]{N:Nat}[NeZero N]
theorem SN(a b c d e f g h i j k:Us)(w:Uq):(Vd 28 (.agg #[a,b,c,d,e,f,g,h,i,j,k])).run prog w=.ok (jZ w.heap.size) (w.alloc (.cells #[a,b,c,d,e,f,g,h,i,j,k] 28)):=kR
theorem Ue(a b c d:Nat)(w:Uq):(Vx 24 4 #[(0,r33 a),(1,r33 b),(2,r33 c),(3,r33 d)]).run prog w=.ok (sZ w.heap.size 4 4) (w.alloc (.cells #[r33 a,r33 b,r33 c,r33 d] 23)):=kR
abbrev pqP(k n:Nat)(B:Nat->Bs):Pq:=⟨λQ W=>PtL Q W k n B,λ_ _ _ k h=>h.keep k,λ_ _ _ m h=>h.mono2 m⟩
def four(a b c d:Bs)(j:Nat):Bs:=if j=0 then a else if j=1 then b else if j=2 then c else d
def AD{α:Type}(a b c:α)(j:Nat):α:=if j=0 then a else if j=1 then b else c
theorem Ei{Q:Nat->Prop}{W':Uq}{k a b c:Nat}{x y z:Bs}(h:ElQ Q 32 W' (r32 a) x)(g:ElQ Q 32 W' (r32 b) y)(e:ElQ Q 32 W' (r32 c) z)(d:Row W' k [r32 a,r32 b,r32 c]):Args W' (some (aZ k)) 3 (AD x y z):=λ_=>by
 refine⟨_,rfl,d.1,λj f=>?_⟩;match j,f with
 | 0,_=>exact⟨_,d.2.1 0 _ rfl,h.argS⟩
 | 1,_=>exact⟨_,d.2.1 1 _ rfl,g.argS⟩
 | 2,_=>exact⟨_,d.2.1 2 _ rfl,e.argS⟩
 | j+3,h=>omega
theorem Il{Q:Nat->Prop}{W:Uq}{k n c:Nat}{a:Nat->Nat}(h:SLq Q W (sZ k n c) n a)(i:Nat)(b:i<n):W.rangeAt k (0+4*i) (wn (a i)):=by
 obtain⟨g,o,d,e,-,-,-,h⟩:=h;cases e
 exact h i b
theorem EH{Q:Nat->Prop}{W:Uq}{k n:Nat}{B:Nat->Bs}(h:PtL Q W k n B)(i:Nat)(b:i<n):W.rangeAt k (0+33*i) (aA (B i)):=by
 rw[UC];exact(h i b).2.2
abbrev Z3:List Us:=[.slice none 0 0,.slice none 0 0,.slice none 0 0]
theorem Om{x:Us}(h:x∈Z3):x=.slice none 0 0:=by
 simp only[VW,UX,or_false,or_self]at h;exact h
def pLw(v:Us)(r:Nat)(L:Bs):S1:=⟨λx w=>x=v/\r<w.heap.size/\Holds encB w r 0 L,λ_ _ _ k h=>⟨h.1,Uw h.2.1 k.size,Holds.below h.2.2 k h.2.1⟩⟩
theorem row_ne{b:List (Nat × List Us)}{k r:Nat}{c n:List Us}(h:(b.map (·.1)).Nodup)(i j:Nat)(p:i≠j)(t:b[i]? = some (k,c))(q:b[j]? = some (r,n)):k≠r:=λe=>by
 have f:=Z2.1 h;obtain⟨v,o⟩:=UE.1 t;obtain⟨m,s⟩:=UE.1 q;have l:(b.map (·.1))[i]'(by simpa using v)=k:=by rw[Xc,o]
 have g:(b.map (·.1))[j]'(by simpa using m)=r:=by rw[Xc,s]
 rcases Wp i j with d|u
 ·exact f i j _ _ d (l.trans (e.trans g.symm))
 ·exact f j i _ _ oM (g.trans (e.symm.trans l.symm))
theorem Lq(C:Fld P)(O:Ord N)(k:∀r:EC.Pt P,On r->mul N r=none)(g:IsP N)(q:18446744073709551616<=N){n t:Nat}(i:Wd n t)(p:Rp)(ok:p.Ok)(V:Bs)(d b c:OnP P)(m:V=wP d)(f:p.c=wP b)(l:p.d=wP c)(tau tt x y z:Fin N)(o:p.u=tau.val)(u:p.t=tt.val)(w:Uq)(X:Bs)(j:X=wP ((aD C k).cm (hPV C) (gPG C) (tt-rgD n y z) tau))(s:X=wP ((aD C k).ad ((aD C k).ad ((aD C k).ac (z*z) d) ((aD C k).ac x b)) ((aD C k).ac (x*x) c))):
 UG prog 122 #[.agg p.l.toArray,pvl V,iZ n,nv x.val,nv y.val,nv z.val] w (rZ w λe w'=>e=.bool true):=by
 refine(Lr C O k g q i p ok V d b c m f l tau tt x y z o u w X X j s).mono ?_;rintro e w' ⟨v,rfl,f,rfl⟩;refine⟨_,rfl,f,?_⟩;generalize X=Y;simp only[decide_true]
theorem uIl:(prog.underlying 202).map (·.isRow)=some true:=kR
theorem iIl(k c t a b:Nat):(prog.info? 202).map (·.size)=some (inL k c t a b).length:=kR
theorem Oq(C:Fld P)(O:Ord N)(d:∀r:EC.Pt P,On r->mul N r=none)(hP:IsP N)(hN:18446744073709551616<=N){n t:Nat}(hw:Wd n t)(p:Rp)(ok:p.Ok)(V:Bs)(Vp PA PS P1 P2:OnP P)(hV:V=wP Vp)(hA:p.a=wP PA)(hS:p.s=wP PS)(T:p.c=wP P1)(h2:p.d=wP P2)(tau mu tt x y z wf:Fin N)(hu:p.u=tau.val)(hm:p.m=mu.val)(ht:p.t=tt.val)(L3 L6 L8:Bs)(l3:L3=bgL V n p.a p.s)(ey:y=kM N L3)(ez:z=kM N (bB L3))(l6:L6=mdL (bB (bB L3)) p.c p.d)(ex:x=kM N L6)(l8:L8=enL (bB L6) p.u p.m p.t)(ew:wf=kM N L8)
 (Lb Rb:Nat->Bs) (Lp Tp:Nat->OnP P) (d6:∀j,Lb j=wP (Lp j)) (e4:∀j,Rb j=wP (Tp j)) (a b:Fin N) (u:OnP P) (eu:u=(aD C d).ac wf (uPt C)) (v0:Md.Vs Bs (OnP P)) (br:v0.s=bB L8) (eh:v0.g=gPt C ⟨#[108,101,102,116]⟩) (ej:v0.h=λi=>(aD C d).ac (pwF (ivF y) i) (gPt C ⟨#[114,105,103,104,116]⟩ i)) (es:v0.p=(aD C d).ad ((aD C d).ad ((aD C d).ad ((aD C d).ad PA ((aD C d).ac x PS)) ((aD C d).ac (-1) ((aD C d).ac mu (gPG C)))) ((aD C d).ad ((aD C d).dt (λ_=>-z) v0.g n) ((aD C d).dt (rgS y z) v0.h n))) ((aD C d).ac tt u)) (X:Bs) (J:X=wP ((aD C d).cm (hPV C) (gPG C) (tt-rgD n y z) tau)) (hY:X=wP ((aD C d).ad ((aD C d).ad ((aD C d).ac (z*z) Vp) ((aD C d).ac x P1)) ((aD C d).ac (x*x) P2))) (ei:(aD C d).KV u a b ((aD C d).vst (chF N) ivF t Lp Tp v0 t)) (f:Nat) (e:Us) (w:Uq) (e8:RgA f t p Lb Rb (bx a.val) (bx b.val) e w) :
 UG prog 54 #[pvl V,iZ n,e] w (rZ w λe w'=>e=.bool true):=by
 obtain⟨g1,g2,g3,g4,g5,g6,g7,vL,vR,vA,vB,rfl,hT,hL,hR,eA,eB⟩:=e8.ex;have d3:=hw.2.2;have sV:V.size=33:=by rw[hV];exact aT _
 have h0:=λ(W:Uq) (B:kZ w W)=>(Kq.of_below B:Kq (λ_=>True) w W)
 have HT:=mk1 (λ(W:Uq) (B:kZ w W)=>hT.keep (h0 W B));have h6:∀X:OnP P,∃q,rd P (wP X)=some q:=λX=>by obtain⟨q,hq,-⟩:=zM C X.2;exact⟨q,hq⟩
 have cz:=mk1 (λ(W:Uq) (B:kZ w W)=>LU C O d3 W (hL.keep (h0 W B) λg R=>B.block g (hL.lt R).2) (hR.keep (h0 W B) λg R=>B.block g (hR.lt R).2) (eA.keep (h0 W B)) (eB.keep (h0 W B)) (λj _=>by rw[d6];exact h6 _) (λj _=>by rw[e4];exact h6 _) (kJ O a.isLt) (kJ O b.isLt));obtain⟨vV,h8⟩:=hE (pvl V);obtain⟨k3,bn⟩:=hE (w.heap.size);obtain⟨w1,c9⟩:=hE (w.alloc (.cells (aA V).toArray 103));obtain⟨k5,bl⟩:=hE (w1.heap.size);obtain⟨w2,ds⟩:=hE (w1.alloc (.cells [r33 g1,r33 g2,r33 g3,r33 g4,r32 g5,r32 g6,r32 g7,vL,vR,vA,vB].toArray 28));have K2:=mk1 (((Mp.start w).new bn c9).new bl ds);obtain⟨ve,ct⟩:=hE (U2 #[r33 g1,r33 g2,r33 g3,r33 g4,r32 g5,r32 g6,r32 g7,vL,vR,vA,vB]);have B1:Hid ((Vd 103 vV).run prog w=.ok (jZ k3) w1):=by rw[<-h8.out,<-c9.out,<-bn.out];exact rM sV w
 have B2:Hid ((Vd 28 ve).run prog w1=.ok (jZ k5) w2):=by rw[<-ct.out,<-ds.out,<-bl.out];exact SN _ _ _ _ _ _ _ _ _ _ _ w1
 have cf:=mk1 (hw.hv w2);rw[h8.out,ct.out];clear e8 hT hL hR eA eB h0;go_enter func54,ntmps54;refine Uy ?_;refine PW.begin ?_;refine PW.ns B1.out ?_;refine PW.ns B2.out ?_;refine PW.va (.bool false) ?_;refine PW.dn ?_;refine Uy ?_;refine PW.begin ?_;refine PW.mv ?_;refine PW.gi cf.out λw3 c4=>?_
 have K3:=mk1 (K2.grow c4);clear K2 c4 cf B1 B2;refine PW.mv ?_;refine PW.va (iZ t) ?_;refine PW.va (.bool true) ?_;refine PW.va (iZ t) ?_;refine PW.va (.bool true) ?_;refine PW.dn ?_;refine Uy ?_;refine PW.begin ?_;refine PW.va (oZ k5 7) ?_;refine PW.ro (cs:=[vL,vR,vA,vB]) (rnB (xs:=[r33 g1,r33 g2,r33 g3,r33 g4,r32 g5,r32 g6,r32 g7]) (K3.at_ 1).2.1 rfl) (Hid.mk' rfl) Lf Jf ?_;refine PW.mv ?_;refine PW.ca (cz w3 K3.bl) ?_;rintro e w4 ⟨cn,kl,kr,rfl,co,dp⟩;simp only[UM,Ur,Ut,Uu];have A:=mk1 ((K3.gets cn (pqP kl t Lb) co).has (pqP kr t Rb) (dp.mono2 λg _ R=>K3.nk g R));clear cz cn co dp K3;obtain⟨vI,hvI⟩:=hE (U2 (inL kl kr t a.val b.val).toArray);rw[hvI.out];refine PW.mv ?_;refine PW.va vI ?_;refine PW.va (.bool true) ?_;obtain⟨k9,dq⟩:=hE (w4.heap.size);obtain⟨w5,ec⟩:=hE (w4.alloc (.cells inZ.toArray 202));obtain⟨w6,d5⟩:=hE (w5.setCells k9 0 (inL kl kr t a.val b.val));have D:=mk1 (A.new dq ec);have K6:=mk1 (D.put 2 d5);refine PW.al dq ec ?_;refine PW.st d5 hvI (D.th 2) (iIl _ _ _ _ _) (E8 _ _ _ _ _) ?_;refine PW.va (.bool true) ?_;clear A D;refine PW.dn ?_;have I:=HT w6 K6.bl;obtain⟨kb,e9⟩:=hE (w6.heap.size);obtain⟨w7,da⟩:=hE (w6.alloc (.cells [r33 g1,r33 g2,r33 g3,r33 g4].toArray 23));have hr:Hid ((Vx 24 4 #[(0,r33 g1),(1,r33 g2),(2,r33 g3),(3,r33 g4)]).run prog w6=.ok (sZ kb 4 4) w7):=by rw[<-da.out,<-e9.out];exact Ue _ _ _ _ w6
 have F7:=aN e9 da;have bj:Hid (UG prog 120 #[.func (.func 53) #[] #[],sZ kb 4 4] w7 (rZ w7 λe w'=>∃K,e=.tuple #[sZ K 4 4,.bool true]/\PtL (w7.heap.size<=·) w' K 4 (four p.a p.s p.c p.d))):=by
  have kq:Kq (λ_=>True) w6 w7:=Kq.of_below F7.1;refine(Kh C kb 4 4 dC (four p.a p.s p.c p.d) w7 F7.2.1 λj Z=>?_).mono ?_
  ·match j,Z with
   | 0,_=>exact⟨_,F7.2.2.1 0 _ rfl,(I.a.keep kq).arg⟩
   | 1,_=>exact⟨_,F7.2.2.1 1 _ rfl,(I.b.keep kq).arg⟩
   | 2,_=>exact⟨_,F7.2.2.1 2 _ rfl,(I.c.keep kq).arg⟩
   | 3,_=>exact⟨_,F7.2.2.1 3 _ rfl,(I.d.keep kq).arg⟩
  ·rintro e w' ⟨v,rfl,B,h⟩;rcases h with⟨-,K,rfl,l,s,k3⟩|⟨⟨j,Z,f⟩,-⟩
   ·exact⟨_,rfl,B,K,rfl,λj Z=>⟨l,s,k3 j Z⟩⟩
   ·exfalso;have:∃q,rd P (four p.a p.s p.c p.d j)=some q:=by
     match j,Z with
     | 0,_=>rw[show four p.a p.s p.c p.d 0=p.a from rfl,hA];exact h6 _
     | 1,_=>rw[show four p.a p.s p.c p.d 1=p.s from rfl,hS];exact h6 _
     | 2,_=>rw[show four p.a p.s p.c p.d 2=p.c from rfl,T];exact h6 _
     | 3,_=>rw[show four p.a p.s p.c p.d 3=p.d from rfl,h2];exact h6 _
    obtain⟨q,hq⟩:=this;rw[hq]at f;cases f
 refine Uy ?_;refine PW.begin ?_;refine PW.va (jZ k5) ?_;refine PW.ce ((K6.at_ 1).2.1 0 _ rfl) uBy ?_;refine PW.va (oZ k5 1) ?_;refine PW.ce ((K6.at_ 1).2.1 1 _ rfl) uBy ?_;refine PW.va (oZ k5 2) ?_;refine PW.ce ((K6.at_ 1).2.1 2 _ rfl) uBy ?_;refine PW.va (oZ k5 3) ?_;refine PW.ce ((K6.at_ 1).2.1 3 _ rfl) uBy ?_;refine PW.ns hr.out ?_;refine PW.ca bj.out ?_;rintro e w8 ⟨bi,A,rfl,cq⟩;simp only[UM,Ur,Ut,Uu];have K8:=mk1 ((K6.grow F7.1).gets bi (pqP A 4 (four p.a p.s p.c p.d)) cq);clear bj hr F7 I K6 bi cq;refine PW.mv ?_;refine PW.va (sZ A 4 4) ?_;refine PW.va (.bool true) ?_;refine PW.va (sZ A 4 4) ?_;refine PW.va (.bool true) ?_;refine PW.dn ?_;have I:=HT w8 K8.bl;obtain⟨kc,cd⟩:=hE (w8.heap.size);obtain⟨w9,bo⟩:=hE (w8.alloc (.cells [r32 g5,r32 g6,r32 g7].toArray 23));have hr:Hid ((Vx 24 3 #[(0,r32 g5),(1,r32 g6),(2,r32 g7)]).run prog w8=.ok (sZ kc 3 3) w9):=by rw[<-bo.out,<-cd.out];exact SJ _ _ _ w8
 have F9:=aN cd bo;have k7:Kq (λ_=>True) w8 w9:=Kq.of_below F9.1;have dd:=mk1 (Kf O 3 3 dC (some (aZ kc)) (AD (bx p.u) (bx p.m) (bx p.t)) (AD p.u p.m p.t) w9 (Ei (I.e.keep k7) (I.f.keep k7) (I.g.keep k7) F9.2) λj Z=>by
  match j,Z with
  | 0,_=>exact kJ O (by rw[hu];exact tau.isLt)
  | 1,_=>exact kJ O (by rw[hm];exact mu.isLt)
  | 2,_=>exact kJ O (by rw[ht];exact tt.isLt)
  | j+3,h=>omega)
 refine Uy ?_;refine PW.begin ?_;refine PW.va (oZ k5 4) ?_;refine PW.ce ((K8.at_ 1).2.1 4 _ rfl) uBy ?_;refine PW.va (oZ k5 5) ?_;refine PW.ce ((K8.at_ 1).2.1 5 _ rfl) uBy ?_;refine PW.va (oZ k5 6) ?_;refine PW.ce ((K8.at_ 1).2.1 6 _ rfl) uBy ?_;refine PW.ns hr.out ?_;refine PW.ca dd.out ?_;rintro e hy ⟨ke,D,rfl,c3⟩;simp only[UM,Ur,Ut,Uu];have L:=mk1 ((K8.grow F9.1).gets ke (pqS (sZ D 3 3) 3 (AD p.u p.m p.t)) c3);clear dd hr F9 I K8 ke c3 k7;refine PW.mv ?_;refine PW.va (sZ D 3 3) ?_;refine PW.va (.bool true) ?_;refine PW.va (sZ D 3 3) ?_;refine PW.va (.bool true) ?_;refine PW.dn ?_;refine Uy ?_;go_wp2_with fail
 rename_i Q' K hKK
 refine hG (pvl p.a) λva bz=>?_
 refine hG (pvl p.s) λvs bm=>?_
 refine hG (pvl p.c) λvc dw=>?_
 refine hG (pvl p.d) λvd dl=>?_
 refine hG (nv p.u) λvu d2=>?_
 refine hG (nv p.m) λvm bt=>?_
 refine hG (nv p.t) λvt c6=>?_
 refine hG (U2 p.l.toArray) λvp E=>?_
 refine hG hy.heap.size λb0 B=>?_
 have hc:∀ {W},kZ hy W->b0<=W.heap.size:=λh=>B.out ▸ h.size
 refine(gwL [pE (sZ A 4 4),pE (.pointer (some ⟨A,0+33*0,none⟩)),pE va,pE (sZ A 4 4),pE (.pointer (some ⟨A,0+33*1,none⟩)),pE vs,pE (sZ A 4 4),pE (.pointer (some ⟨A,0+33*2,none⟩)),pE vc,pE (sZ A 4 4),pE (.pointer (some ⟨A,0+33*3,none⟩)),pE vd,pE (sZ D 3 3),pE (.pointer (some ⟨D,0+4*0,none⟩)),pE vu,pE (sZ D 3 3),pE (.pointer (some ⟨D,0+4*1,none⟩)),pE vm,pE (sZ D 3 3),pE (.pointer (some ⟨D,0+4*2,none⟩)),pE vt,pE vp,RG.pN b0 rp0.l] (λW=>kZ hy W) (λW W' B h=>h.trans (B.mono h.size))).tail2 23 kR kR kR ⟨
  gO 11 (sZ A 4 4),
  DO 0 67 (sZ A 4 4) (.pointer (some ⟨A,0+33*0,none⟩)) (Vk 200 (sZ A 4 4) (iZ ((0:Nat):Int))) (atP A 0 4 4 0 dC) (λx W h=>h) (λ_=>rfl),
  gLr (cs:=aA p.a) 1 68 (λW s=>EH ((L.grow s).get 2) 0 dC) uCP (by rw[aB ok.a];exact iCP) (hR:=λ_=>bz.out),
  gO 11 (sZ A 4 4),
  DO 3 70 (sZ A 4 4) (.pointer (some ⟨A,0+33*1,none⟩)) (Vk 200 (sZ A 4 4) (iZ ((1:Nat):Int))) (atP A 0 4 4 1 dC) (λx W h=>h) (λ_=>rfl),
  gLr (cs:=aA p.s) 4 71 (λW s=>EH ((L.grow s).get 2) 1 dC) uCP (by rw[aB ok.s];exact iCP) (hR:=λ_=>bm.out),
  gO 11 (sZ A 4 4),
  DO 6 73 (sZ A 4 4) (.pointer (some ⟨A,0+33*2,none⟩)) (Vk 200 (sZ A 4 4) (iZ ((2:Nat):Int))) (atP A 0 4 4 2 dC) (λx W h=>h) (λ_=>rfl),
  gLr (cs:=aA p.c) 7 74 (λW s=>EH ((L.grow s).get 2) 2 dC) uCP (by rw[aB ok.c];exact iCP) (hR:=λ_=>dw.out),
  gO 11 (sZ A 4 4),
  DO 9 76 (sZ A 4 4) (.pointer (some ⟨A,0+33*3,none⟩)) (Vk 200 (sZ A 4 4) (iZ ((3:Nat):Int))) (atP A 0 4 4 3 dC) (λx W h=>h) (λ_=>rfl),
  gLr (cs:=aA p.d) 10 77 (λW s=>EH ((L.grow s).get 2) 3 dC) uCP (by rw[aB ok.d];exact iCP) (hR:=λ_=>dl.out),
  gO 13 (sZ D 3 3),
  DO 12 79 (sZ D 3 3) (.pointer (some ⟨D,0+4*0,none⟩)) (Vk 124 (sZ D 3 3) (iZ ((0:Nat):Int))) (lF D 0 3 3 0 dC) (λx W h=>h) (λ_=>rfl),
  gLr (cs:=wn p.u) 13 80 (λW s=>Il ((L.grow s).get 3) 0 dC) u40 i40 (hR:=λ_=>d2.out),
  gO 13 (sZ D 3 3),
  DO 15 82 (sZ D 3 3) (.pointer (some ⟨D,0+4*1,none⟩)) (Vk 124 (sZ D 3 3) (iZ ((1:Nat):Int))) (lF D 0 3 3 1 dC) (λx W h=>h) (λ_=>rfl),
  gLr (cs:=wn p.m) 16 83 (λW s=>Il ((L.grow s).get 3) 1 dC) u40 i40 (hR:=λ_=>bt.out),
  gO 13 (sZ D 3 3),
  DO 18 85 (sZ D 3 3) (.pointer (some ⟨D,0+4*2,none⟩)) (Vk 124 (sZ D 3 3) (iZ ((2:Nat):Int))) (lF D 0 3 3 2 dC) (λx W h=>h) (λ_=>rfl),
  gLr (cs:=wn p.t) 19 86 (λW s=>Il ((L.grow s).get 3) 2 dC) u40 i40 (hR:=λ_=>c6.out),
  Jm [(69,va),(72,vs),(75,vc),(78,vd),(81,vu),(84,vm),(87,vt)] vp (λa W f=>⟨f.n 2 69 kR kR,f.n 5 72 kR kR,f.n 8 75 kR kR,f.n 11 78 kR kR,f.n 14 81 kR kR,f.n 17 84 kR kR,f.n 20 87 kR kR,yCl⟩) (λ_=>rfl) (λW=>by rw[<-bz.out,<-bm.out,<-dw.out,<-dl.out,<-d2.out,<-bt.out,<-c6.out,<-E.out];unfold pvl Rp.l;rw[dF ok.a,dF ok.s,dF ok.c,dF ok.d];kernel_rfl),
  xP rp0.l 137 (λW W' h s=>⟨_,rfl,hc s,h⟩),yCl⟩ ⟨rfl,rfl,rfl,Uv _,λ_ _=>rfl⟩ ?_
 intro Y7 et hR s;have d7:Y7 21=vp:=hR 21 dC;obtain⟨bb,dm,bp,d4⟩:=hR 22 dC;have bd:=mk1 (L.add s d4 (by rw[B.out];exact bp));dsimp only[bU,VJ,Xk,Xl];simp only[UM,Ur,Ut,Uu];rw[d7,dm];clear hR s d7 dm L B hc bp d4;refine hG (et.setCells bb 0 p.l) λh9 kj=>?_
 have lR:p.l.length=rp0.l.length:=(Rp.len ok).trans (Rp.len Iy).symm;have k6:=mk1 (bd.put 3 kj rfl lR);have h4:(prog.info? 137).map (·.size)=some p.l.length:=by rw[Rp.len ok];exact iRd
 refine PW.st kj E (bd.th 3 rfl lR) h4 (Rp.one p) ?_;clear bd;refine PW.dn ?_;refine hKK _ _ ?_;clear hKK K;refine hG (bB (bB L3)) λL5 b2=>?_
 have s5:L5.size=32:=by rw[<-b2.out];exact bE _ _
 refine hG (nv y.val) λvy S=>?_
 refine hG (nv z.val) λvz h7=>?_
 have kg:n<=64:=by rw[hw.1];exact UB (Vz dC hw.2.2) dC
 have kh:Hid (UG prog 68 #[vp,vV,iZ n] h9 (rZ h9 λe w'=>∃r,e=.tuple #[lgV r,vy,vz]/\h9.heap.size<=r/\Holds encB w' r 0 L5)):=by
  have h:=NX O p ok V sV n oM h9;rw[<-l3,mP O hP ey,mP O hP ez,b2.out,E.out,h8.out,S.out,h7.out]at h;exact h
 have iV:(prog.info? 103).map (·.size)=some (aA V).length:=by rw[aB sV];exact iCP
 refine Uy ?_;refine PW.begin ?_;refine PW.ro (k6.at_ 3).2.1 E uRd h4 ?_;refine PW.ro (k6.at_ 0).2.1 h8 uCP iV ?_;refine PW.mv ?_;refine PW.ca kh.out ?_;rintro e bq ⟨kp,r,rfl,lr,Hr⟩;simp only[UM,Ur,Ut,Uu];have df:=mk1 (k6.add kp (pW Hr (Holds.lt Hr (by rw[s5];decide))) lr);clear kh kp lr Hr k6;refine PW.mv ?_;refine PW.va (lgV r) ?_;refine PW.va vy ?_;refine PW.va vz ?_;refine hG (bq.heap.size) λb9 kw=>?_
 refine hG (bq.alloc (.cells [.pointer none].toArray 145)) λck ko=>?_
 refine hG ck.heap.size λb3 kn=>?_
 refine hG (ck.alloc (.cells (RG.z 4).toArray 49)) λe5 kz=>?_
 refine hG e5.heap.size λdb k8=>?_
 refine hG (e5.alloc (.cells (RG.z 4).toArray 49)) λeg kv=>?_
 refine hG (eg.setCells b9 0 [jZ r]) λek ky=>?_
 refine hG (ek.setCells b3 0 (wn y.val)) λen ka=>?_
 refine hG (en.setCells db 0 (wn z.val)) λbc kd=>?_
 have bf:=mk1 (((df.new kw ko).new kn kz).new k8 kv);have b6:=mk1 (bf.put 5 ky);have b8:=mk1 (b6.put 6 ka);have ha:=mk1 (b8.put 7 kd);refine PW.al kw ko ?_;refine PW.al kn kz ?_;refine PW.al k8 kv ?_;refine PW.st ky (Hid.mk' rfl) (bf.th 5) iLg kR ?_;refine PW.st ka S (b6.th 6) i40 (aM _) ?_;refine PW.st kd h7 (b8.th 7) i40 (aM _) ?_;clear df bf b6 b8;refine PW.dn ?_;refine hG (bB L6) λL7 bh=>?_
 have s7:L7.size=32:=by rw[<-bh.out];exact bE _ _
 refine hG (nv x.val) λvx h5=>?_
 have kx:Hid (UG prog 76 #[vp,lgV r] bc (Ret λe w'=>SP.Only r 0 32 bc w'/\Holds encB w' r 0 L7/\e=vx)):=by
  have h:=NC O p ok r L5 bc (ha.log 4) s5;rw[show mdL L5 p.c p.d=L6 by rw[<-b2.out];exact l6.symm,mP O hP ex,bh.out,E.out,h5.out]at h;exact h
 refine Uy ?_;refine PW.begin ?_;refine PW.ro (ha.at_ 3).2.1 E uRd h4 ?_;refine PW.ro (cs:=[jZ r]) (ha.at_ 5).2.1 (Hid.mk' rfl) uLg iLg ?_;refine PW.ca kx.out ?_;rintro e ea ⟨kf,kk,dz⟩;obtain rfl:=dz.symm;simp only[UM,Ur,Ut,Uu];have bk:=mk1 (ha.say 4 kf kk);clear kx kf kk ha;refine hG (ea.heap.size) λcy kt=>?_
 refine hG (ea.alloc (.cells (RG.z 4).toArray 49)) λeo ki=>?_
 refine hG (eo.setCells cy 0 (wn x.val)) λM ku=>?_
 have bg:=mk1 (bk.new kt ki);have F:=mk1 (bg.put 8 ku);refine PW.al kt ki ?_;refine PW.st ku h5 (bg.th 8) i40 (aM _) ?_;clear bk bg;refine PW.dn ?_;refine hG (bB L8) λL9 k4=>?_
 have s9:L9.size=32:=by rw[<-k4.out];exact bE _ _
 refine hG (nv wf.val) λvw dh=>?_
 have ba:0<n:=by rw[hw.1];exact XH dC
 obtain⟨Q2,hQ⟩:=F.out.q;have nr:∀g,Q2 g->g≠r:=F.ne hQ 4;have hk:=(F.at_ 4).1;have l:Hid (∀ {k:Nat}{c:List Us}{W:Uq},Row M k c->k≠r->SP.Only r 0 32 M W->Row W k c):=λT h2 h3=>aV T h3.size (h3.block _ T.1 h2)
 have nk:Hid ((b3≠r/\bb≠r)/\b9≠r):=by
  have h:=F.out.nd;simp only[List.map_cons,List.map_nil,List.nodup_cons,VW,UX,or_false,not_or]at h;exact⟨⟨λe=>h.2.2.2.2.1.2.1 e.symm,h.2.2.2.1.1⟩,λe=>h.2.2.2.2.1.1 e.symm⟩
 have d8:=nK C hP.1 n;have du:Hid (∀W,Holds encB W r 0 L7->UG prog 81 #[vp,lgV r] W (Ret λe w'=>SP.Only r 0 32 W w'/\Holds encB w' r 0 L9/\e=vw)):=λW hH=>by
  have h:=NR O p ok (by rw[hu];exact tau.isLt) (by rw[hm];exact mu.isLt) (by rw[ht];exact tt.isLt) r L7 W hH s7;rw[show enL L7 p.u p.m p.t=L8 by rw[<-bh.out];exact l8.symm,mP O hP ew,k4.out,E.out,dh.out]at h;exact h
 have cj:Hid (∀W v,(∀g,W.heap.size<=g->Q2 g)->GRq Q2 W v n (gGT P) (hGT P) (uGT P)->UG prog 84 #[v,vy,vw] W (rZ W λe w'=>GRq Q2 w' e n (gGT P) (oQ N y.val (hGT P)) ((uGT P).map (tmT N wf.val)))):=λW v T h2=>by
  rw[<-S.out,<-dh.out];exact H6 O n ba kg (gGT P) (hGT P) (uGT P) (λi G=>⟨(d8.tl i G).ok,by show 1<=512;decide⟩) (mR C hP.1).ok (by show 1<=512;decide) y.val wf.val y.isLt wf.isLt v W T h2
 refine hG M.heap.size λb0 B=>?_
 have hc:∀ {W},SP.Only r 0 32 M W->b0<=W.heap.size:=λh=>B.out ▸ h.size
 have Gk:Hid (∀ {W W':Uq}{v:Us}{G H U},SP.Only r 0 32 W W'->GRq Q2 W v n G H U->GRq Q2 W' v n G H U):=λhO h=>h.keep ⟨hO.size,λg R hl=>hO.block g hl (nr g R)⟩
 have rb:r<b0:=by rw[<-B.out];exact hk
 have he:Hid (∀ {W:Uq},SP.Only r 0 32 M W->∀g,W.heap.size<=g->Q2 g):=λh g R=>F.nkq hQ g (UB h.size R)
 refine Uy ?_;refine(gwL [pE (iZ n),pR Q2 n (gGT P) (hGT P) (uGT P),pE vy,pE vp,pE (lgV r),pLw vw r L9,pR Q2 n (gGT P) (oQ N y.val (hGT P)) ((uGT P).map (tmT N wf.val)),pX b0 Z3] (λW=>SP.Only r 0 32 M W) (λ_ _ B h=>h.trans (SP.Only.of_below B rfl (Uw hk h.size)))).tailL 5 (λW W'=>SP.Only r 0 32 W W') (λW=>r<W.heap.size/\Holds encB W r 0 L7) 8 (λj v W W' Z hO h=>by
  match j,Z with
  | 0,_=>exact h
  | 1,_=>exact Gk.out hO h
  | 2,_=>exact h
  | 3,_=>exact h
  | 4,_=>exact h
  | 5,Z=>exact(Z rfl).elim
  | 6,_=>exact Gk.out hO h
  | 7,_=>exact Mk hO rb h
  | j+8,_=>exact h) (λW W' hO h=>SP.Only.trans h hO) (λW W' B h=>⟨Uw h.1 B.size,Holds.below h.2 B h.1⟩) kR kR kR ⟨
  DJ (gO 1 (iZ n)),
  DJ (oW 0 100 62 (λx=>#[x]) (λx W e1 s=>by
   obtain rfl:x=iZ n:=e1;refine(xQ (P:=P) C n oM W).mono ?_;rintro e W' ⟨Y,rfl,T,h2⟩;exact⟨_,rfl,T,h2.mono (he.out s)⟩)),
  DJ (gLo (cs:=wn y.val) 17 (λW s=>(l.out (F.at_ 6) nk.1.1 s).2.1) u40 i40 (hR:=λ_=>S.out)),
  DJ (gLo (cs:=p.l) 15 (λW s=>(l.out (F.at_ 3) nk.1.2 s).2.1) uRd h4 (hR:=λ_=>E.out)),
  DJ (gLo (cs:=[jZ r]) 16 (λW s=>(l.out (F.at_ 5) nk.2 s).2.1) uLg iLg),
  TQ (λa W f s=>⟨[(103,vp),(104,lgV r)],81,#[vp,lgV r],⟨f.n 3 103 kR kR,f.n 4 104 kR kR,yCl⟩,kR,by
   refine(du.out W s.2).mono ?_;rintro e W' ⟨Y,rfl,T,h2,h3⟩;exact⟨_,rfl,T,h3,Uw s.1 T.size,h2⟩⟩),
  DJ (rG 1 101 2 102 5 105 84 (λx y z=>#[x,y,z]) (λx u z W e1 e2 e3 s=>by
   obtain rfl:u=vy:=e2;obtain rfl:z=vw:=e3.1;exact cj.out W x (he.out s) e1)),
  DJ (RX b0 Z3 133 (λW s=>hc s) (λv W h=>h)),yCl⟩ (SP.Only.of_below (⟨rfl,rfl,rfl,Uv _,λ_ _=>rfl⟩:kZ M M.drew) rfl hk) ⟨hk,F.log 4⟩ ?_
 intro Y b5 hR s;have de:GRq Q2 b5 (Y 6) n (gGT P) (oQ N y.val (hGT P)) ((uGT P).map (tmT N wf.val)):=hR 6 dC;have e0:Holds encB b5 r 0 L9:=(hR 5 dC).2.2;obtain⟨d0,e7,dx,bu,cx⟩:=hR 7 dC;obtain⟨ci,c5⟩:=F.out.sayAdd 4 s e0 bu (by rw[B.out];exact dx);have gl:∀j,j<n->0<(gGT P j).length:=λj Z=>by rw[(vE C hP.1 n).len j Z];decide
 have hl:∀j,j<n->0<(oQ N y.val (hGT P) j).length:=λj Z=>by rw[(Jr C d hP y n).len j Z];decide
 have hz:=(de.offX ba gl hl (by rw[UP];show 0<1;decide) (λi x hx=>Om (cx i x hx))).mono λg R=>c5 g (by rw[hQ.out];exact R.1) R.2
 obtain⟨q1,q2,q3,e6,c7,d1,cg⟩:=hz.ex;obtain⟨ga,oa,ca,e1⟩:∃g o c,q1=.slice (some ⟨g,o,none⟩) n c:=by obtain⟨g,o,c,h,-⟩:=c7;exact⟨g,o,c,h⟩
 obtain⟨gb,ob,cb,e2⟩:∃g o c,q2=.slice (some ⟨g,o,none⟩) n c:=by obtain⟨g,o,c,h,-⟩:=d1;exact⟨g,o,c,h⟩
 obtain⟨gc,mc,cc,e3⟩:∃g m c,q3=sZ g m c:=by obtain⟨g,c,h,-⟩:=cg;exact⟨g,_,c,h⟩
 subst e1 e2 e3;rw[e6]at hz;have b7:=mk1 (ci.has (pqG _ n (gGT P) (oQ N y.val (hGT P)) ((uGT P).map (tmT N wf.val))) hz);dsimp only[bU,VJ,Xk,Xl];simp only[UM,Ur,Ut,Uu];rw[e6,e7];clear hR s de hz c7 d1 cg e0 bu cx dx e6 e7 F ci c5 B hc rb he Gk l du cj nk hk nr hQ Q2 d8;refine hG (b5.setCells d0 0 [.slice (some ⟨ga,oa,none⟩) n ca,.slice (some ⟨gb,ob,none⟩) n cb,sZ gc mc cc]) λhs km=>?_
 have f:=mk1 (b7.put 9 km);refine PW.st km (Hid.mk' rfl) (b7.th 9) iGr kR ?_;clear b7;refine PW.dn ?_;have ef:Hid (∀W,UG prog 122 #[vp,vV,iZ n,vx,vy,vz] W (rZ W λe w'=>e=.bool true)):=λW=>by
  rw[<-E.out,<-h8.out,<-h5.out,<-S.out,<-h7.out];exact Lq C O d hP hN hw p ok V Vp P1 P2 hV T h2 tau tt x y z hu ht W X J hY
 have G1:Gd N n 1 (gGT P) v0.g:=by rw[eh];exact vE C hP.1 n
 have G2:Gd N n 1 (oQ N y.val (hGT P)) v0.h:=by rw[ej];exact Jr C d hP y n
 have G3:Tl N ((uGT P).map (tmT N wf.val)) u:=by rw[eu];exact(mR C hP.1).tm C d wf
 have G4:((uGT P).map (tmT N wf.val)).length=1:=by rw[UP];rfl
 obtain⟨lh,bs,er,bv⟩:=RS C O d hP hN ba kg p ok PA PS hA hS mu tt x y z hm ht (gGT P) (oQ N y.val (hGT P)) ((uGT P).map (tmT N wf.val)) v0.g v0.h u G1 G2 G3 G4;rw[<-es]at bs;rw[E.out,h5.out,S.out,h7.out]at bv;refine hG (U2 #[.slice (some ⟨ga,oa,none⟩) n ca,.slice (some ⟨gb,ob,none⟩) n cb,sZ gc mc cc]) λvg be=>?_
 rw[be.out]at f;have c0:=(f.at_ 4).1;refine Uy ?_;have l:Hid (∀ {k:Nat}{c:List Us}{W:Uq},Row hs k c->k≠r->SP.Only r 0 32 hs W->Row W k c):=λT h2 h3=>aV T h3.size (h3.block _ T.1 h2)
 have cv:bb≠r:=(row_ne f.out.nd 3 4 dC rfl rfl)
 have n3:k3≠r:=(row_ne f.out.nd 0 4 dC rfl rfl)
 have n9:k9≠r:=(row_ne f.out.nd 2 4 dC rfl rfl)
 have ed:b9≠r:=(row_ne f.out.nd 5 4 dC rfl rfl)
 have c8:b3≠r:=(row_ne f.out.nd 6 4 dC rfl rfl)
 have d9:db≠r:=(row_ne f.out.nd 7 4 dC rfl rfl)
 have dy:cy≠r:=(row_ne f.out.nd 8 4 dC rfl rfl)
 have dk:d0≠r:=(row_ne f.out.nd 9 4 dC rfl rfl)
 refine AW.beg 20 20 (Iv.only c0) (SP.Only.of_below (⟨rfl,rfl,rfl,Uv _,λ_ _=>rfl⟩:kZ hs hs.drew) rfl c0) ?_;refine AW.ro 0 (cs:=p.l) (λW h=>(l.out (f.at_ 3) cv h).2.1) E uRd h4 ?_;refine AW.ro 1 (λW h=>(l.out (f.at_ 0) n3 h).2.1) h8 uCP iV ?_;refine AW.mv 2 ?_;refine AW.ro 3 (λW h=>(l.out (f.at_ 8) dy h).2.1) h5 u40 i40 ?_;refine AW.ro 4 (λW h=>(l.out (f.at_ 6) c8 h).2.1) S u40 i40 ?_;refine AW.ro 5 (λW h=>(l.out (f.at_ 7) d9 h).2.1) h7 u40 i40 ?_;refine AW.gi 6 (λ_=>ef.out _) λee cp=>?_
 have k0:=mk1 (f.drew.grow cp);refine AW.mv 7 ?_;refine AG.ro 8 (cs:=inL kl kr t a.val b.val) (λW h=>(l.out (f.at_ 2) n9 h).2.1) hvI uIl (iIl _ _ _ _ _) ?_;refine AG.ro 9 (cs:=[jZ r]) (λW h=>(l.out (f.at_ 5) ed h).2.1) (Hid.mk' rfl) uLg iLg ?_;refine AG.ro 10 (cs:=[.slice (some ⟨ga,oa,none⟩) n ca,.slice (some ⟨gb,ob,none⟩) n cb,sZ gc mc cc]) (λW h=>(l.out (f.at_ 9) dk h).2.1) be uGr iGr ?_;refine AG.ro 11 (cs:=p.l) (λW h=>(l.out (f.at_ 3) cv h).2.1) E uRd h4 ?_;refine AG.ro 12 (cs:=[.slice (some ⟨ga,oa,none⟩) n ca,.slice (some ⟨gb,ob,none⟩) n cb,sZ gc mc cc]) (λW h=>(l.out (f.at_ 9) dk h).2.1) be uGr iGr ?_;refine AG.mv 13 ?_;refine AG.ro 14 (λW h=>(l.out (f.at_ 8) dy h).2.1) h5 u40 i40 ?_;refine AG.ro 15 (λW h=>(l.out (f.at_ 6) c8 h).2.1) S u40 i40 ?_;refine AG.ro 16 (λW h=>(l.out (f.at_ 7) d9 h).2.1) h7 u40 i40 ?_;refine AG.cw 17 (λ_=>bv _ vg ee (k0.get 4)) (λe w' hJ h=>SP.Only.trans hJ (SP.Only.of_below h.1 rfl (k0.at_ 4).1)) ?_;rintro sv b4 ⟨eb,ep⟩;simp only[UM,Ur,Ut,Uu];have J:=mk1 (k0.grow eb);have em:Hid (UG prog 123 #[vI,lgV r,vg,sv] b4 (Ret λe w'=>SP.Only r 0 32 b4 w'/\e=.bool true)):=by
  obtain⟨Q,hQ⟩:=J.out.q;have nr:∀g,Q g->g≠r:=J.ne hQ 4;have f0:=(k0.at_ 4).1;rw[<-hvI.out];exact LQ C O d hP t d3 Lp Tp v0 u (gGT P) (oQ N y.val (hGT P)) ((uGT P).map (tmT N wf.val)) lh (by rw[<-hw.1];exact G1) (by rw[<-hw.1];exact G2) G3 (by rw[G4];decide) (by rw[G4];decide) bs er Lb Rb d6 e4 r kl kr a b vg sv b4 (by rw[br,k4.out];exact J.log 4) (by rw[br,k4.out];exact s9) (PtL.mono2 (J.uP hQ 0) λg _ R=>nr g R) (PtL.mono2 (J.uP hQ 1) λg _ R=>nr g R) (by rw[<-hw.1];exact GRq.mono (J.uP hQ 4) nr) (ep.q.mono λg R=>oM) true (by simp only[true_iff];exact ei)
 refine AG.cw 18 (λ_=>em.out) (λe w' hJ h=>SP.Only.trans hJ h.1) ?_;rintro e f1 ⟨cu,rfl⟩;simp only[UM,Ur,Ut,Uu];refine AW.nx 19 (.bool true) ?_;refine AW.nx 20 (.bool true) ?_;refine AW.dn λ_=>?_
 have hF:=J.bl.trans (wY cu J.bl.size (J.rw (r,aA L9) (VI (i:=4) rfl)).1);go_wp2;go_ret;exact⟨_,rfl,hF,rfl⟩
end
end Go.Proofs.YtdoammpgchejcaaGreat
