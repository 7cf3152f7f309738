import Derived.Deep.AppendSrc
import Derived.Test.YtdoammpgchejcaaGreatsz6
set_option linter.unusedVariables false
set_option linter.constructorNameAsVariable false
set_option linter.unusedSimpArgs false
set_option maxRecDepth 1000000
set_option maxHeartbeats 4000000
namespace Go.Proofs.YtdoammpgchejcaaGreat
open EC NT RG SP
open _root_.And renaming intro->V1
open _root_.Array renaming any_eq_true'->XO,getD_eq_getD_getElem?->UI,getElem?_eq_getElem->U0,getElem?_eq_some_iff->UZ,length_toList->UK,replicate->UJ,setIfInBounds_comm->Z6,toList_replicate->Y3
open _root_.Bool renaming and_eq_true->UL,and_true->yBA,false_or->yAc,not_eq_true'->yAT,not_true->yBz,or_eq_true->Xv
open _root_.Go renaming Addr->Wu,Calls->UH,Exit->Yo,FuncId->Xq,Oper->Vk,Operand->XG,Program->VD,Tmp->WC,TypeId->U8,Value->Ut,World->Ur,bodyPost_ret->UE,execOp->U5,run_loadVar_mid->Ye,wpList_load_mid->U6,wpList_plain->Xg,wpList_store_mid->U2,wp_seq->Uz
open _root_.Go.Act renaming put->UN
open _root_.Go.Code renaming region->V4
open _root_.Go.Instr renaming box->Ve,buildSlice->Vy,indexAt->Vl
open _root_.Go.Next renaming value->Xp
open _root_.Go.Oper renaming semAt_some->Zd,upon_enter->WY,wp->VT
open _root_.Go.Region renaming binds->VP,noSelect->XL,ready->U7,wanted->V2
open _root_.Go.RowKit.Below renaming refl->UR
open _root_.Go.Sem renaming run_bind->UV
open _root_.Go.Value renaming agg->U3
open _root_.Go.World renaming cell?_of_block->UW,rangeAt->YS,size_alloc->UB
open _root_.List renaming all_cons->Zt,all_eq_true->Va,all_nil->ZK,all_toArray->Ya,cons_append->Xa,drop->Xm,getElem?_cons_succ->U9,getElem?_cons_zero->Vf,getElem?_eq_some_iff->UF,getElem?_map->Vz,getElem?_toArray->Vg,getElem_map->Xd,length_append->UA,length_map->UQ,map_append->We,mem_append->Wz,mem_cons->VX,mem_map->Vn,mem_of_getElem?->VJ,mem_range->V0,mem_singleton->WM,nil_append->Xr,nodup_append->YW,not_mem_nil->UY,pairwise_iff_getElem->Z2,range->VG,replicate->VB,setIfInBounds_toArray->Us,set_cons_succ->Uu,set_cons_zero->Uv,size_toArray->VC,take->Xl
open _root_.Nat renaming add_zero->XB,div_eq_of_lt->Xe,le_refl->Uw,le_trans->UC,lt_of_lt_of_le->Ux,lt_or_ge->Wq,mod_eq_of_lt->US,mod_lt->V5,mul_add_div->yBl,mul_comm->Vv,ne_of_gt->V8,one_mul->Xi,one_pos->yBV,pow_le_pow_right->VA,pow_pos->XI,pow_succ->V7,reduceAdd->VK,zero_add->UD,zero_le->Wy,zero_mod->YM
open _root_.Ne renaming symm->YB
open _root_.Option renaming isSome_iff_exists->Vr,map_eq_some_iff->Uy
open _root_.Or renaming inl->U4,inr->UX
open _root_.Prod renaming mk->V6
open Go.Proofs.Tryz
open Go.RowKit Go.Sort Go.Deep
section
variable {N:Nat}
theorem OJ(r:Nat)(L:Bs)(k:ByteArray)(d:Option Wu)(g f:Nat)(b:List UInt8)(w:Ur)(c:k.size<=1048576)(l:Holds encB w r 0 L)(m:L.size=32)(n:PartOk w (.slice d g f) b):
 UH prog 145 #[jZ r,.string k,.slice d g f] w (Ret λe w'=>e=.tuple #[]/\SP.Only r 0 32 w w'/\Holds encB w' r 0 (uN L k.data.toList b)):=
 (Bq r L k d g f b w c (OG l) m n).mono λ_ _ ⟨o,j,i⟩=>⟨_,o,rfl,j,OE i⟩
def bgL(V:Bs)(n:Nat)(A S:Bs):Bs:=jW [102,105,114,115,116] [115,101,99,111,110,100] (uN (uN (newL [114,97,110,103,101]) [99,111,109,109,105,116] V.toList) [98,105,116,115] [bV n 1]) A S
structure BgI(w W:Ur)(k r:Nat)(p:Rp)(V:Bs)(y z:Nat)(L:Bs):Prop where
 bl:kZ w W
 r3:Row W k p.l
 r4:Row W (k+1) (aA V)
 r6:Row W (k+2) [jZ r]
 r7:Row W (k+3) (wn y)
 r8:Row W (k+4) (wn z)
 rk:w.heap.size=k/\k+5<=r
 lg:Holds encB W r 0 L
 ls:L.size=32
section
variable {w W W':Ur}{k r:Nat}{p:Rp}{V:Bs}{y z:Nat}{L L':Bs}
theorem BgI.lt(h:BgI w W k r p V y z L):r<W.heap.size:=Holds.lt h.lg (by rw[h.ls];decide)
theorem BgI.grow(h:BgI w W k r p V y z L)(b:kZ W W'):BgI w W' k r p V y z L:=
 ⟨h.bl.trans (b.mono h.bl.size),h.r3.below b,h.r4.below b,h.r6.below b,h.r7.below b,h.r8.below b,h.rk,Holds.below h.lg b h.lt,h.ls⟩
theorem BgI.say(h:BgI w W k r p V y z L)(b:SP.Only r 0 32 W W')(d:Holds encB W' r 0 L')(c:L'.size=32):BgI w W' k r p V y z L':=by
 have e:=h.rk.2;have f:=h.rk.1;exact⟨h.bl.trans (wY b h.bl.size oM),h.r3.only b oM,h.r4.only b oM,h.r6.only b oM,h.r7.only b oM,h.r8.only b oM,h.rk,d,c⟩
theorem BgI.put(h:BgI w W k r p V y z L)(b c:Nat)(j:Nat)(us:List Ut)(i:j<5)(d:Row (W.setCells (k+j) 0 us) (k+2) [jZ r])(f:Row (W.setCells (k+j) 0 us) (k+3) (wn b))(e:Row (W.setCells (k+j) 0 us) (k+4) (wn c))(g:2<=j):BgI w (W.setCells (k+j) 0 us) k r p V b c L:=by
 have l:=h.rk.2;have m:=h.rk.1;exact⟨RG.below_setCells oM _ _ _ h.bl,aR h.r3 oM,aR h.r4 oM,d,f,e,h.rk,fE h.lg oM,h.ls⟩
theorem BgI.p6(h:BgI w W k r p V y z L)(e:Hid (W.setCells (k+2) 0 [jZ r]=W')):BgI w W' k r p V y z L:=by
 rw[<-e.out];exact h.put y z 2 _ oM (h.r6.put rfl) (aR h.r7 oM) (aR h.r8 oM) oM
theorem BgI.p7(h:BgI w W k r p V y z L){b:Nat}(e:Hid (W.setCells (k+3) 0 (wn b)=W')):BgI w W' k r p V b z L:=by
 rw[<-e.out];exact h.put b z 3 _ oM (aR h.r6 oM) (h.r7.put rfl) (aR h.r8 oM) oM
theorem BgI.p8(h:BgI w W k r p V y z L){b:Nat}(e:Hid (W.setCells (k+4) 0 (wn b)=W')):BgI w W' k r p V y b L:=by
 rw[<-e.out];exact h.put y b 4 _ oM (aR h.r6 oM) (aR h.r7 oM) (h.r8.put rfl) oM
end
theorem BQ{P:VD}{w:Func}{tmps:Array Ut}{W:Ur}{k s f:Nat}{vs us n:List Ut}(t x i:WC)(T m c:U8)(D:w.results=#[.cell t T,.cell x m,.cell i c])(h:Row W k vs)(z:Row W s us)(q:Row W f n)(a:tmps[t]? = some (jZ k))(o:tmps[x]? = some (jZ s))(g:tmps[i]? = some (jZ f))
 (r:(P.underlying T).map (·.isRow)=some true) (A:(P.info? T).map (·.size)=some vs.length) (e:(P.underlying m).map (·.isRow)=some true) (v:(P.info? m).map (·.size)=some us.length) (b:(P.underlying c).map (·.isRow)=some true) (l:(P.info? c).map (·.size)=some n.length):(results w tmps).run P W=.ok (.tuple #[.agg vs.toArray,.agg us.toArray,.agg n.toArray]) W:=by
 obtain⟨d,r,hd⟩:=Uy.1 r;obtain⟨E,e,u⟩:=Uy.1 e;obtain⟨p,b,j⟩:=Uy.1 b;have C:=Ye (P:=P) W k 0 T vs d h.2.1 r hd A;have B:=Ye (P:=P) W s 0 m us E z.2.1 e u v;have y:=Ye (P:=P) W f 0 c n p q.2.1 b j l;unfold results;simp[D,a,o,g,C,B,y,asAddr]
theorem NX(O:Ord N)(p:Rp)(hp:p.Ok)(V:Bs)(hV:V.size=33)(n:Nat)(hn:n<256)(w:Ur):
 UH prog 68 #[.agg p.l.toArray,pvl V,iZ n] w (rZ w λe w'=>∃r,e=.tuple #[lgV r,nv (chS N (bgL V n p.a p.s)),nv (chS N (bB (bgL V n p.a p.s)))]/\w.heap.size<=r/\Holds encB w' r 0 (bB (bB (bgL V n p.a p.s)))):=by
 obtain⟨L0,s⟩:=hE (newL [114,97,110,103,101]);obtain⟨L1,R⟩:=hE (uN L0 [99,111,109,109,105,116] V.toList);obtain⟨L2,t⟩:=hE (uN L1 [98,105,116,115] [bV n 1]);have e3:bgL V n p.a p.s=jW [102,105,114,115,116] [115,101,99,111,110,100] L2 p.a p.s:=by unfold bgL;rw[s.out,R.out,t.out]
 have s0:L0.size=32:=by rw[<-s.out];exact zY _
 have s1:L1.size=32:=by rw[<-R.out];exact kP _ _ _
 have s2:L2.size=32:=by rw[<-t.out];exact kP _ _ _
 obtain⟨L3,J⟩:=hE (jW [102,105,114,115,116] [115,101,99,111,110,100] L2 p.a p.s);obtain⟨X,q⟩:=hE (bB L3);obtain⟨L5,B⟩:=hE (bB X);have s4:X.size=32:=by rw[<-q.out];exact bE _ _
 have s5:L5.size=32:=by rw[<-B.out];exact bE _ _
 obtain⟨y,hy⟩:=hE (chS N L3);obtain⟨z,hz⟩:=hE (chS N X);rw[e3,J.out,q.out,B.out,hy.out,hz.out];have HA:Hid (∀(r:Nat) (W:Ur),Holds encB W r 0 L2->UH prog 146 #[lgV r,.string ⟨#[102,105,114,115,116]⟩,pvl p.a,.string ⟨#[115,101,99,111,110,100]⟩,pvl p.s] W (Ret λe w'=>SP.Only r 0 32 W w'/\Holds encB w' r 0 X/\e=nv y)):=λr W h=>by
  rw[<-hy.out,<-q.out,<-J.out];exact sW O r L2 p.a p.s ⟨#[102,105,114,115,116]⟩ ⟨#[115,101,99,111,110,100]⟩ dC dC hp.a hp.s W h s2
 have HC:Hid (∀(r:Nat) (W:Ur),Holds encB W r 0 X->UH prog 147 #[lgV r] W (Ret λe w'=>SP.Only r 0 32 W w'/\Holds encB w' r 0 L5/\e=nv z)):=λr W h=>by
  rw[<-hz.out,<-B.out];exact yF O r X W h s4
 have HN:Hid (∀W:Ur,UH prog 144 #[.string ⟨#[114,97,110,103,101]⟩] W (rZ W λe w'=>∃r,e=lgV r/\W.heap.size<=r/\r<w'.heap.size/\Holds encB w' r 0 L0)):=λW=>by
  rw[<-s.out];exact GF ⟨#[114,97,110,103,101]⟩ W dC
 clear J q B hy hz s e3;obtain⟨k,hk⟩:=hE (w.heap.size);obtain⟨U,i⟩:=hE (w.alloc (.cells p.l.toArray 137));obtain⟨w2,x⟩:=hE (U.alloc (.cells (aA V).toArray 103));obtain⟨w3,l⟩:=hE (w2.alloc (.cells [.pointer none].toArray 145));obtain⟨w4,m⟩:=hE (w3.alloc (.cells (RG.z 4).toArray 49));obtain⟨w5,a⟩:=hE (w4.alloc (.cells (RG.z 4).toArray 49));have z1:Hid (U.heap.size=k+1):=by rw[<-i.out,UB,hk.out];rfl
 have z2:Hid (w2.heap.size=k+2):=by rw[<-x.out,UB,z1.out];rfl
 have z3:Hid (w3.heap.size=k+3):=by rw[<-l.out,UB,z2.out];rfl
 have z4:Hid (w4.heap.size=k+4):=by rw[<-m.out,UB,z3.out];rfl
 have z5:Hid (w5.heap.size=k+5):=by rw[<-a.out,UB,z4.out];rfl
 have f1:=aN hk i;have f2:=aN z1 x;have f3:=aN z2 l;have f4:=aN z3 m;have f5:=aN z4 a;have T:=f4.1.trans (f5.1.mono f4.1.size);have M:=f3.1.trans (T.mono f3.1.size);have I:=f2.1.trans (M.mono f2.1.size);have F:=mk6 (f1.1.trans (I.mono f1.1.size)) (f1.2.below I) (f2.2.below M) (f3.2.below T) (f4.2.below f5.1) f5.2;obtain⟨vp,h1⟩:=hE (U3 p.l.toArray);obtain⟨vV,h2⟩:=hE (pvl V);have B1:Hid ((Ve 137 vp).run prog w=.ok (jZ k) U):=by rw[<-h1.out,<-i.out,<-hk.out];exact J2 hp w
 have B2:Hid ((Ve 103 vV).run prog U=.ok (.pointer (some ⟨k+1,0,none⟩)) w2):=by rw[<-h2.out,<-x.out,<-z1.out];exact rM hV U
 rw[h1.out,h2.out];have HP:=mk2 hp hV;clear f1 f2 f3 f4 f5 T M I;go_enter func68,ntmps68;go_wp2_with (first|(refine aF (u:=vp) (v:=jZ k) (w':=U) rfl _ (.tmp 0) rfl ?_ ?_ ?_;rfl;exact B1.out)|(refine aF (u:=vV) (v:=.pointer (some ⟨k+1,0,none⟩)) (w':=w2) rfl _ (.tmp 1) rfl ?_ ?_ ?_;rfl;exact B2.out)|(refine alR 6 z2 l ?_)|(refine alR 7 z3 m ?_)|(refine alR 8 z4 a ?_)|fail)
 refine(HN w5).mono ?_;rintro e w6 ⟨uu,rfl,b,r,rfl,Q,ha,c⟩;obtain⟨w7,K⟩:=hE (w6.setCells (k+2) 0 [jZ r]);have h5:=mk1 (F.2.2.2.1.below b).2.2;have K7:Hid (BgI w w7 k r p V 0 0 L0):=by
  rw[z5.out]at Q;rw[<-K.out];have d:=hk.out;exact⟨RG.below_setCells oM _ _ _ (F.1.trans (b.mono F.1.size)),aR (F.2.1.below b) oM,aR (F.2.2.1.below b) oM,(F.2.2.2.1.below b).put rfl,aR (F.2.2.2.2.1.below b) oM,aR (F.2.2.2.2.2.below b) oM,⟨hk.out,Q⟩,fE c oM,s0⟩
 clear F b Q ha c z1 z2 z3 z4 z5 i x l m a B1 B2 HN;unfold lgV;go_wp2_with (first|(refine stR 6 K (Hid.mk' rfl) h5.out iLg kR ?_)|fail)
 clear h5 K;refine AW.begin 4 4 ?_;refine AW.va 0 (.pointer (some ⟨k+2,0,none⟩)) ?_;refine AW.va 1 (.pointer (some ⟨k+2,0,none⟩)) ?_;refine AW.ce 2 uLp (λW A=>(K7.grow A).r6.2.1 0 _ rfl) ?_;refine AW.va 3 (.slice (some ⟨k+1,0,none⟩) 33 33) ?_;refine AW.fc (λA=>OJ r L0 ⟨#[99,111,109,109,105,116]⟩ (some ⟨k+1,0,none⟩) 33 33 V.toList _ dC (K7.grow A).lg s0 (wO HP.2 (K7.grow A).r4)) ?_;rintro e w8 A ⟨rfl,g,c⟩;rw[show(⟨#[99,111,109,109,105,116]⟩:ByteArray).data.toList=[99,111,109,109,105,116] from rfl,R.out]at c;have K8:=mk1 ((K7.grow A).say g c s1);clear K7 A g c;have c6:w8.cell? ⟨k+2,0,none⟩=some (jZ r):=K8.r6.2.1 0 _ rfl;have h8:∀W:Ur,(convert 3 5 (iZ n)).run prog W=.ok (.int .u8 (SP.ub (bV n 1))) W:=λW=>by
  have d:(n:Int)%256=SP.ub (bV n 1):=xK n;rw[<-d];rfl
 have HL:=mk1 (rfl:bV n 1=bV n 1);generalize bV n 1=D at t h8;obtain⟨w9,S⟩:=hE (w8.alloc (.cells #[.int .u8 (SP.ub D)] 5));obtain⟨k9,h7⟩:=hE (w8.heap.size);have h0:Hid ((Vy 23 1 #[(0,.int .u8 (SP.ub D))]).run prog w8=.ok (sZ k9 1 1) w9):=by rw[<-S.out,<-h7.out];show _=_;kernel_rfl
 have f9:Hid (kZ w8 w9/\Row w9 k9 [.int .u8 (SP.ub D)]):=by rw[<-S.out,<-h7.out];exact⟨aC _ _,aE w8 [.int .u8 (SP.ub D)] 5⟩
 have K9:=mk2 (K8.grow f9.1) (show PartOk w9 (sZ k9 1 1) [D] from⟨_,k9,0,1,#[D],rfl,rfl,Uw _,(by show 1<=1099511627776;decide),UX ⟨rfl,λj hj=>by
  obtain rfl:j=0:=by simp at hj;omega
  exact⟨f9.2.2.1 0 _ rfl,(f9.2.2.2 0 yBV).2⟩⟩⟩)
 go_wp2_with (first|(refine inR 20 (Vy 23 1 #[(0,.int .u8 (SP.ub D))]) h0.out ?_)|fail)
 refine(OJ r L1 ⟨#[98,105,116,115]⟩ (some (aZ k9)) 1 1 [D] w9 dC K9.1.lg s1 K9.2).mono ?_;rintro e hi ⟨uu,rfl,rfl,g,c⟩;rw[show(⟨#[98,105,116,115]⟩:ByteArray).data.toList=[98,105,116,115] from rfl,t.out]at c;have KA:=mk1 (K9.1.say g c s2);clear K9 g c K8 f9 h0 S c6;obtain⟨vl,d⟩:=hE (lgV r);obtain⟨vA,hvA⟩:=hE (pvl p.a);obtain⟨vS,h4⟩:=hE (pvl p.s);have iA:(prog.info? 103).map (·.size)=some (aA p.a).length:=by rw[aB HP.1.a];exact iCP
 have iS:(prog.info? 103).map (·.size)=some (aA p.s).length:=by rw[aB HP.1.s];exact iCP
 have H7:=Rp.at7 HP.1 KA.r3.2.1;have P:=mk1 (HA r hi KA.lg);rw[d.out,hvA.out,h4.out]at P;go_wp2_with (first|(refine ldR 6 KA.r6.2.1 d uLg iLg ?_)|(refine ldR 23 H7.1 hvA uCP iA ?_)|(refine ldR 25 H7.2.1 h4 uCP iS ?_)|fail)
 refine P.mono ?_;clear P H7;rintro e h9 ⟨uu,rfl,g,c,rfl⟩;have KB:=mk1 (KA.say g c s4);clear KA g c;obtain⟨h6,f⟩:=hE (h9.setCells (k+3) 0 (wn y));obtain⟨vy,o⟩:=hE (nv y);rw[o.out];go_wp2_with (first|(refine stR 7 f o KB.r7.2.2 i40 (aM y) ?_)|fail)
 have KC:=mk1 (KB.p7 f);clear KB f;refine AW.beg 6 6 ⟨λW=>∃z L,BgI w W k r p V y z L,λ_ _ A ⟨z,L,h⟩=>⟨z,L,h.grow A⟩,true⟩ ⟨_,_,KC.grow ⟨rfl,rfl,rfl,Uw _,λ_ _=>rfl⟩⟩ ?_;refine AW.ro 0 (λW ⟨_,_,h⟩=>h.r6.2.1) d uLg iLg ?_;refine AW.ro 1 (λW ⟨_,_,h⟩=>h.r7.2.1) o u40 i40 ?_;refine AW.ro 2 (λW ⟨_,_,h⟩=>h.r6.2.1) d uLg iLg ?_;have KD:=mk1 (KC.grow (W':=h6.drew) ⟨rfl,rfl,rfl,Uw _,λ_ _=>rfl⟩);have H:=mk1 (HC r h6.drew KD.lg);rw[d.out]at H;refine AW.cw 3 (λ_=>H.out) (λe w' _ h=>⟨_,_,KD.say h.1 h.2.1 s5⟩) ?_;rintro e he ⟨g,c,rfl⟩;simp only[UN,Us,Uu,Uv];have KE:=mk1 (KD.say g c s5);clear KD g c H;obtain⟨hc,E⟩:=hE (he.setCells (k+2) 0 [jZ r]);obtain⟨hg,C⟩:=hE (hc.setCells (k+3) 0 (wn y));obtain⟨hl,G⟩:=hE (hg.setCells (k+4) 0 (wn z));have KF:=mk1 (KE.p6 E);have KG:=mk1 (KF.p7 C);have Y:=mk1 (KG.p8 G);obtain⟨vz,Z⟩:=hE (nv z);rw[Z.out];refine AW.ss 4 d kR iLg E (λ_=>⟨KE.r6.2.2,_,_,KF.out⟩) ?_;refine AW.ss 5 o (aM y) i40 C (λ_=>⟨KF.r7.2.2,_,_,KG.out⟩) ?_;refine AW.fi (us:=wn z) Z (aM z) i40 (λ_=>⟨KG.r8.2.2,?_⟩);rw[G.out];go_wp2_with fail
 refine UE (BQ 6 7 8 145 49 49 rfl Y.r6 Y.r7 Y.r8 rfl rfl rfl uLg iLg u40 i40 u40 i40) rfl ?_;exact⟨_,rfl,Y.bl,r,rfl,by have:=Y.rk;omega,Y.lg⟩
structure MdI(w W:Ur)(k r:Nat)(p:Rp)(y:Nat)(L:Bs):Prop where
 on:SP.Only r 0 32 w W
 r2:Row W k p.l
 r3:Row W (k+1) [jZ r]
 r4:Row W (k+2) (wn y)
 rk:w.heap.size=k/\r<k
 lg:Holds encB W r 0 L
 ls:L.size=32
section
variable {w W W':Ur}{k r:Nat}{p:Rp}{y:Nat}{L L':Bs}
theorem MdI.lt(h:MdI w W k r p y L):r<W.heap.size:=Holds.lt h.lg (by rw[h.ls];decide)
theorem MdI.grow(h:MdI w W k r p y L)(b:kZ W W'):MdI w W' k r p y L:=
 ⟨h.on.trans (SP.Only.of_below b rfl h.lt),h.r2.below b,h.r3.below b,h.r4.below b,h.rk,Holds.below h.lg b h.lt,h.ls⟩
theorem MdI.say(h:MdI w W k r p y L)(b:SP.Only r 0 32 W W')(d:Holds encB W' r 0 L')(c:L'.size=32):MdI w W' k r p y L':=by
 have:=h.rk;exact⟨h.on.trans b,h.r2.only b oM,h.r3.only b oM,h.r4.only b oM,h.rk,d,c⟩
theorem MdI.put(h:MdI w W k r p y L){b:Nat}(e:Hid (W.setCells (k+2) 0 (wn b)=W')):MdI w W' k r p b L:=by
 have:=h.rk;rw[<-e.out];exact⟨jF h.on h.rk.1 h.rk.2 oM,aR h.r2 oM,aR h.r3 oM,h.r4.put rfl,h.rk,fE h.lg oM,h.ls⟩
theorem I9(u:p.Ok)(s:Holds encB w r 0 L)(t:L.size=32):∃k c d o,Hid (w.heap.size=k)/\Hid (d.heap.size=k+2)/\Hid (d.alloc (.cells (RG.z 4).toArray 49)=o)/\Hid ((Ve 137 (.agg p.l.toArray)).run prog w=.ok (jZ k) c)/\Hid ((Ve 145 (lgV r)).run prog c=.ok (.pointer (some ⟨k+1,0,none⟩)) d)/\Hid (MdI w o k r p 0 L):=by
 have q:=Holds.lt s (by rw[t];decide);have g:=aN (T:=137) (Hid.mk' (rfl:w.heap.size=_)) (Hid.mk' (rfl:w.alloc (.cells p.l.toArray 137)=_));have j:(w.alloc (.cells p.l.toArray 137)).heap.size=w.heap.size+1:=UB _ _;have m:=Na r (w.alloc (.cells p.l.toArray 137));generalize n:w.alloc (.cells p.l.toArray 137)=c at g j m;have f2:=aN (T:=145) (z:=[jZ r]) (Hid.mk' j) (Hid.mk' rfl);have l:(c.alloc (.cells [jZ r].toArray 145)).heap.size=w.heap.size+2:=by rw[UB,j]
 rw[j]at m;have f:(Ve 145 (lgV r)).run prog c=.ok (.pointer (some ⟨w.heap.size+1,0,none⟩)) (c.alloc (.cells [jZ r].toArray 145)):=m;generalize c.alloc (.cells [jZ r].toArray 145)=d at f2 l f;have i:=aN (T:=49) (z:=RG.z 4) (Hid.mk' l) (Hid.mk' rfl);refine⟨_,c,d,_,rfl,l,rfl,?_,f,?_⟩
 ·rw[<-n];exact J2 u w
 generalize d.alloc (.cells (RG.z 4).toArray 49)=o at i;have e:=f2.1.trans (i.1.mono f2.1.size);have b:=g.1.trans (e.mono g.1.size);exact⟨SP.Only.of_below b rfl q,g.2.below e,f2.2.below i.1,i.2,⟨rfl,q⟩,Holds.below s b q,t⟩
end
def mdL(L C D:Bs):Bs:=jW [116,104,105,114,100] [102,111,117,114,116,104] L C D
theorem NC(O:Ord N)(p:Rp)(f:p.Ok)(r:Nat)(L:Bs)(w:Ur)(A:Holds encB w r 0 L)(C:L.size=32):
 UH prog 76 #[.agg p.l.toArray,lgV r] w (Ret λe w'=>SP.Only r 0 32 w w'/\Holds encB w' r 0 (bB (mdL L p.c p.d))/\e=nv (chS N (mdL L p.c p.d))):=by
 obtain⟨E,d⟩:=hE (mdL L p.c p.d);obtain⟨y,c⟩:=hE (bB E);obtain⟨x,hx⟩:=hE (chS N E);have s2:y.size=32:=by rw[<-c.out];exact bE _ _
 rw[d.out,c.out,hx.out];have z:Hid (∀(W:Ur),Holds encB W r 0 L->UH prog 146 #[lgV r,.string ⟨#[116,104,105,114,100]⟩,pvl p.c,.string ⟨#[102,111,117,114,116,104]⟩,pvl p.d] W (Ret λe w'=>SP.Only r 0 32 W w'/\Holds encB w' r 0 y/\e=nv x)):=λW h=>by
  rw[<-hx.out,<-c.out,<-d.out];exact sW O r L p.c p.d ⟨#[116,104,105,114,100]⟩ ⟨#[102,111,117,114,116,104]⟩ dC dC f.c f.d W h C
 clear d c hx;obtain⟨k,Q,P,M,S,H,q,t,a,n⟩:=I9 f A C;obtain⟨J,j⟩:=hE (U3 p.l.toArray);obtain⟨vl,b⟩:=hE (lgV r);obtain⟨V,g⟩:=hE (pvl p.c);obtain⟨U,i⟩:=hE (pvl p.d);rw[j.out]at t;have s:=mk1 (z M n.lg);rw[b.out]at a;rw[b.out,g.out,i.out]at s;rw[j.out,b.out];have K:(prog.info? 103).map (·.size)=some (aA p.c).length:=by rw[aB f.c];exact iCP
 have I:(prog.info? 103).map (·.size)=some (aA p.d).length:=by rw[aB f.d];exact iCP
 have G:=mk1 (Rp.at7 f n.r2.2.1);clear z A;go_enter func76,ntmps76;go_wp2_with (first|(refine aF (u:=J) (v:=jZ k) (w':=Q) rfl _ (.tmp 0) rfl ?_ ?_ ?_;rfl;exact t.out)|(refine aF (u:=vl) (v:=.pointer (some ⟨k+1,0,none⟩)) (w':=P) rfl _ (.tmp 1) rfl ?_ ?_ ?_;rfl;exact a.out)|(refine alR 4 H q ?_)|(refine ldR 3 n.r3.2.1 b uLg iLg ?_)|(refine ldR 6 G.2.2.1 g uCP K ?_)|(refine ldR 8 G.2.2.2.1 i uCP I ?_)|fail)
 refine s.mono ?_;rintro e R ⟨Y,rfl,F,D,rfl⟩;have B:=mk1 (n.say F D s2);clear s F D n;obtain⟨X,m⟩:=hE (R.setCells (k+2) 0 (wn x));have o:=mk1 (B.put m);obtain⟨T,l⟩:=hE (nv x);rw[l.out];go_wp2_with (first|(refine stR 4 m l B.r4.2.2 i40 (aM x) ?_)|fail)
 refine UE (aG 4 49 rfl o.r4 rfl u40 i40) rfl ?_;exact⟨_,rfl,o.on,o.lg,rfl⟩
theorem SC(L:Nat->Bs):iJ L 3=(L 0).toList++((L 1).toList++(L 2).toList):=by simp[iJ,List.range_succ]
theorem GE{B n:Nat}{w:Ur}{v:Ut}{x:List UInt8}(h:w.ownsRow B 5 1 v n (x.map encB))(e:0<n)(r:n<=1000000):∃q c,v=.slice q n c/\PartOk w v x:=by
 have f:x.length=n:=by have:=h.1;rw[UQ,Nat.mul_one]at this;exact this
 rcases id h with⟨-,⟨rfl,e⟩|⟨g,cap,cur,rfl,s,i,l,m,p,o⟩⟩
 ·omega
 ·have hx:x.toArray.size=n:=by rw[VC];exact f
  refine⟨_,_,rfl,some (aZ g),g,0,cap,x.toArray,by rw[hx],rfl,oM,oM,UX ⟨rfl,λj d=>?_⟩⟩;have k:j<x.length:=oM;have b:=h.cells (g:=g) rfl j (encB x[j]) (by rw[Vz,List.getElem?_eq_getElem k];rfl);rw[lH]at b;refine⟨by rw[b,getElem!_pos _ j d];simp;rfl,?_⟩;simp[World.frozen?,i]
theorem SK(g b k:Nat)(w:Ur):(Vy 24 3 #[(0,r32 g),(1,r32 b),(2,r32 k)]).run prog w=.ok (sZ w.heap.size 3 3) (w.alloc (.cells #[r32 g,r32 b,r32 k] 23)):=kR
def enB(u m t:Nat):List UInt8:=(bx u).toList++((bx m).toList++(bx t).toList)
def enL(L:Bs)(u m t:Nat):Bs:=uN L [115,117,109,115] (enB u m t)
theorem ElQ.el{Q:Nat->Prop}{m:Nat}{W:Ur}{x:Ut}{b:Bs}(h:ElQ Q m W x b):El m W x b:=by
 obtain⟨k,c,g,e,d,-,i,f⟩:=h;exact⟨k,c,g,e,d,i,f⟩
theorem NR(O:Ord N)(p:Rp)(hp:p.Ok)(hu:p.u<N)(hm:p.m<N)(ht:p.t<N)(r:Nat)(L:Bs)(w:Ur)(hL:Holds encB w r 0 L)(hl:L.size=32):
 UH prog 81 #[.agg p.l.toArray,lgV r] w (Ret λe w'=>SP.Only r 0 32 w w'/\Holds encB w' r 0 (bB (enL L p.u p.m p.t))/\e=nv (chS N (enL L p.u p.m p.t))):=by
 obtain⟨V,l⟩:=hE (enL L p.u p.m p.t);obtain⟨L2,i⟩:=hE (bB V);obtain⟨x,hx⟩:=hE (chS N V);have s1:V.size=32:=by rw[<-l.out];exact kP _ _ _
 have s2:L2.size=32:=by rw[<-i.out];exact bE _ _
 have HC:Hid (∀(W:Ur),Holds encB W r 0 V->UH prog 147 #[lgV r] W (Ret λe w'=>SP.Only r 0 32 W w'/\Holds encB w' r 0 L2/\e=nv x)):=λW h=>by
  rw[<-hx.out,<-i.out];exact yF O r V W h s1
 rw[l.out,i.out,hx.out];unfold enL enB at l;have d:=λ(a:Nat) (ha:a<N) (W:Ur)=>fW O ha W
 have b1:=λW=>d p.u hu W
 have b2:=λW=>d p.m hm W
 have b3:=λW=>d p.t ht W
 have sz:∀a:Nat,(bx a).size=32:=eE;have n:=mk3 (sz p.u) (sz p.m) (sz p.t);have HB:=mk3 b1 b2 b3;clear b1 b2 b3 d hu hm ht sz i hx;generalize bx p.u=q at *;generalize bx p.m=t at *;generalize bx p.t=s at *;obtain⟨vu,R⟩:=hE (nv p.u);obtain⟨vm,X⟩:=hE (nv p.m);obtain⟨vt,Q⟩:=hE (nv p.t);rw[R.out,X.out,Q.out]at HB;obtain⟨k,w1,w2,w3,hk,z2,h1,B1,B2,m⟩:=I9 hp hL hl;obtain⟨vp,I⟩:=hE (U3 p.l.toArray);obtain⟨vl,g⟩:=hE (lgV r);rw[I.out]at B1;rw[g.out]at B2;rw[I.out,g.out];clear hL;have HP:=mk1 hp;go_enter func81,ntmps81;go_wp2_with (first|(refine aF (u:=vp) (v:=jZ k) (w':=w1) rfl _ (.tmp 0) rfl ?_ ?_ ?_;rfl;exact B1.out)|(refine aF (u:=vl) (v:=.pointer (some ⟨k+1,0,none⟩)) (w':=w2) rfl _ (.tmp 1) rfl ?_ ?_ ?_;rfl;exact B2.out)|(refine alR 4 z2 h1 ?_)|fail)
 have n3:Hid (k+1≠r):=by have:=m.rk;show _≠_;omega
 have n2:Hid (k≠r):=by have:=m.rk;show _≠_;omega
 refine AW.beg 14 14 (Iv.only m.lt) (SP.Only.of_below (⟨rfl,rfl,rfl,Uw _,λ_ _=>rfl⟩:kZ w3 w3.drew) rfl m.lt) ?_;refine AW.va 0 (.pointer (some ⟨k+1,0,none⟩)) ?_;refine AW.va 1 (.pointer (some ⟨k+1,0,none⟩)) ?_;refine AW.ce 2 uLp (λW b=>(m.r3.only b n3.out).2.1 0 _ rfl) ?_;refine AW.va 3 (oZ k 132) ?_;refine AW.ro 4 (λW b=>(Rp.at7 HP.out (m.r2.only b n2.out).2.1).2.2.2.2.1) R u40 i40 ?_;refine AW.va 6 (oZ k 136) ?_;refine AW.ro 7 (λW b=>(Rp.at7 HP.out (m.r2.only b n2.out).2.1).2.2.2.2.2.1) X u40 i40 ?_;refine AW.va 9 (oZ k 140) ?_;refine AW.ro 10 (λW b=>(Rp.at7 HP.out (m.r2.only b n2.out).2.1).2.2.2.2.2.2) Q u40 i40 ?_;refine AW.ca 5 (λ_=>HB.1 _) (λe w' h=>h.1) ?_;rintro e w4 ⟨f,G,B,rfl⟩;simp only[UN,Us,Uu,Uv];refine AW.ca 8 (λ_=>HB.2.1 _) (λe w' h=>h.1) ?_;rintro e w5 ⟨z,S,C,rfl⟩;simp only[UN,Us,Uu,Uv];refine AW.ca 11 (λ_=>HB.2.2 _) (λe w' h=>h.1) ?_;rintro e A ⟨y,F,D,rfl⟩;simp only[UN,Us,Uu,Uv];have U:=aC A (.cells #[r32 B,r32 C,r32 D] 23);have Y:=aE A [r32 B,r32 C,r32 D] 23;have c:=z.trans (y.mono z.size);have E1:=(G.keep (Kq.of_below c)).keep (Kq.of_below U);have E2:=(S.keep (Kq.of_below y)).keep (Kq.of_below U);have E3:=F.keep (Kq.of_below U);refine AW.ns 12 (SK B C D A) U ?_;have o:=mk1 (JM A.heap.size 3 3 (λj=>if j=0 then q else if j=1 then t else s) dC (λj hj=>by
  match j,hj with
  | 0,_=>show q.size<=10000;rw[n.1];decide
  | 1,_=>show t.size<=10000;rw[n.2.1];decide
  | 2,_=>show s.size<=10000;rw[n.2.2];decide) (A.alloc (.cells #[r32 B,r32 C,r32 D] 23)) Y.1 λj hj=>by
  match j,hj with
  | 0,_=>exact⟨r32 B,Y.2.1 0 _ rfl,by show El q.size _ _ q;rw[n.1];exact E1.el⟩
  | 1,_=>exact⟨r32 C,Y.2.1 1 _ rfl,by show El t.size _ _ t;rw[n.2.1];exact E2.el⟩
  | 2,_=>exact⟨r32 D,Y.2.1 2 _ rfl,by show El s.size _ _ s;rw[n.2.2];exact E3.el⟩)
 have h0:(iJ (λj=>if j=0 then q else if j=1 then t else s) 3)=q.toList++(t.toList++s.toList):=SC _;rw[h0]at o;have h2:(q.toList++(t.toList++s.toList)).length=96:=by simp only[UA,UK,n.1,n.2.1,n.2.2]
 generalize q.toList++(t.toList++s.toList)=xx at *;rw[h2]at o;have P:=mk1 (((UR _ w3).drew.trans (f.trans (c.mono f.size))).trans (U.mono (UC f.size c.size)));clear G S F E1 E2 E3 Y f z y c;generalize A.alloc (.cells #[r32 B,r32 C,r32 D] 23)=w7 at *;refine AW.ca 13 (λ_=>o.out) (λe w' h=>h.1) ?_;rintro e w8 ⟨K,J⟩;simp only[UN,Us,Uu,Uv];obtain⟨qa,qc,rfl,H⟩:=GE J dC dC;have K8:=mk1 (m.grow (P.trans (K.mono P.size)));refine AW.cw 14 (λ_=>OJ r L ⟨#[115,117,109,115]⟩ qa 96 qc xx w8 dC K8.lg hl H) (λe w' hI h=>hI.trans h.2.1) ?_;rintro e w9 ⟨rfl,b,E⟩;simp only[UN,Us,Uu,Uv];rw[show(⟨#[115,117,109,115]⟩:ByteArray).data.toList=[115,117,109,115] from rfl,l.out]at E;have Z:=mk1 (K8.say b E s1);clear b E J H o K K8;refine AW.dn λ_=>?_
 have HD:=mk1 (HC w9 Z.lg);rw[g.out]at HD;go_wp2_with (first|(refine ldR 3 Z.r3.2.1 g uLg iLg ?_)|fail)
 refine HD.mono ?_;rintro e wA ⟨uu,rfl,b,E,rfl⟩;have KA:=mk1 (Z.say b E s2);clear HD b E Z;obtain⟨wB,T⟩:=hE (wA.setCells (k+2) 0 (wn x));have KB:=mk1 (KA.put T);obtain⟨vx,M⟩:=hE (nv x);rw[M.out];go_wp2_with (first|(refine stR 4 T M KA.r4.2.2 i40 (aM x) ?_)|fail)
 refine UE (aG 4 49 rfl KB.r4 rfl u40 i40) rfl ?_;exact⟨_,rfl,KB.on,KB.lg,rfl⟩
end
section
variable {P:Nat}[NeZero P]{N:Nat}
theorem uAr:(prog.underlying 28).map (·.isRow)=some true:=kR
theorem iAr:(prog.info? 28).map (·.size)=some 11:=kR
theorem SN(a b c d:Ut)(w:Ur):(Ve 26 (.agg #[a,b,c,d])).run prog w=.ok (jZ w.heap.size) (w.alloc (.cells #[a,b,c,d] 26)):=kR
def z11:List Ut:=VB 11 (.slice none 0 0)
structure RgT(Q:Nat->Prop)(W:Ur)(p:Rp)(a b c d e f g:Nat):Prop where
 a:ElQ Q 33 W (r33 a) p.a
 b:ElQ Q 33 W (r33 b) p.s
 c:ElQ Q 33 W (r33 c) p.c
 d:ElQ Q 33 W (r33 d) p.d
 e:ElQ Q 32 W (r32 e) (bx p.u)
 f:ElQ Q 32 W (r32 f) (bx p.m)
 g:ElQ Q 32 W (r32 g) (bx p.t)
theorem RgT.keep{Q:Nat->Prop}{W W':Ur}{p:Rp}{a b c d e f g:Nat}(h:RgT Q W p a b c d e f g)(k:Kq Q W W'):RgT Q W' p a b c d e f g:=⟨h.a.keep k,h.b.keep k,h.c.keep k,h.d.keep k,h.e.keep k,h.f.keep k,h.g.keep k⟩
theorem RgT.mono2{Q Q':Nat->Prop}{W:Ur}{p:Rp}{a b c d e f g:Nat}(h:RgT Q W p a b c d e f g)(k:∀g,g<W.heap.size->Q g->Q' g):RgT Q' W p a b c d e f g:=⟨h.a.mono2 k,h.b.mono2 k,h.c.mono2 k,h.d.mono2 k,h.e.mono2 k,h.f.mono2 k,h.g.mono2 k⟩
theorem Ox(O:Ord N)(p:Rp)(L:p.Ok)(hu:p.u<N)(hm:p.m<N)(ht:p.t<N)(r A l z:Ut)(h1:r.oneCell'=true/\A.oneCell'=true/\l.oneCell'=true/\z.oneCell'=true)(w:Ur):
 UH prog 82 #[.agg p.l.toArray,.agg #[r,A,l,z]] w (rZ w λe w'=>∃a b c d u m t,e=.agg #[r33 a,r33 b,r33 c,r33 d,r32 u,r32 m,r32 t,r,A,l,z]/\RgT (w.heap.size<=·) w' p a b c d u m t):=by
 have D:=mk7 (λW=>fZ L.a W) (λW=>fZ L.s W) (λW=>fZ L.c W) (λW=>fZ L.d W) (λW=>fW O hu W) (λW=>fW O hm W) (λW=>fW O ht W);obtain⟨va,h7⟩:=hE (pvl p.a);obtain⟨vs,h8⟩:=hE (pvl p.s);obtain⟨vc,hc⟩:=hE (pvl p.c);obtain⟨vd,h3⟩:=hE (pvl p.d);obtain⟨vu,ha⟩:=hE (nv p.u);obtain⟨vm,he⟩:=hE (nv p.m);obtain⟨vt,h9⟩:=hE (nv p.t);rw[h7.out,h8.out,hc.out,h3.out,ha.out,he.out,h9.out]at D;have iP:∀ {b:Bs},b.size=33->(prog.info? 103).map (·.size)=some (aA b).length:=λh=>by rw[aB h];exact iCP
 obtain⟨k,hk⟩:=hE (w.heap.size);obtain⟨U,E⟩:=hE (w.alloc (.cells p.l.toArray 137));obtain⟨k3,H⟩:=hE (U.heap.size);obtain⟨w2,I⟩:=hE (U.alloc (.cells [r,A,l,z].toArray 26));obtain⟨Z,G⟩:=hE (w2.heap.size);obtain⟨C,h0⟩:=hE (w2.alloc (.cells z11.toArray 28));have F:=Nb hk E H I G h0;have h2:w.heap.size<=Z/\Z<C.heap.size:=⟨by rw[<-G.out];exact UC (aN hk E).1.size (aN H I).1.size,F.2.2.2.1⟩
 have i:=mk2 h2 h1;obtain⟨vp,h5⟩:=hE (U3 p.l.toArray);obtain⟨vi,j⟩:=hE (U3 #[r,A,l,z]);have B1:Hid ((Ve 137 vp).run prog w=.ok (jZ k) U):=by rw[<-h5.out,<-E.out,<-hk.out];exact J2 L w
 have B2:Hid ((Ve 26 vi).run prog U=.ok (jZ k3) w2):=by rw[<-j.out,<-I.out,<-H.out];exact SN _ _ _ _ U
 have HP:=mk1 L;rw[h5.out,j.out];clear h2 h1;go_enter func82,ntmps82;go_wp2_with (first|(refine aF (u:=vp) (v:=jZ k) (w':=U) rfl _ (.tmp 0) rfl ?_ ?_ ?_;rfl;exact B1.out)|(refine aF (u:=vi) (v:=jZ k3) (w':=w2) rfl _ (.tmp 1) rfl ?_ ?_ ?_;rfl;exact B2.out)|(refine alR 4 G h0 ?_)|fail)
 have J:∀W,kZ C W->_:=λW f=>Rp.at7 HP.out (F.2.1.below f).2.1
 refine AW.begin 23 23 ?_;refine AW.va 0 (jZ k) ?_;refine AW.ro 1 (λW f=>(J W f).1) h7 uCP (iP HP.a) ?_;refine AW.va 3 (oZ k 33) ?_;refine AW.ro 4 (λW f=>(J W f).2.1) h8 uCP (iP HP.s) ?_;refine AW.va 6 (oZ k 66) ?_;refine AW.ro 7 (λW f=>(J W f).2.2.1) hc uCP (iP HP.c) ?_;refine AW.va 9 (oZ k 99) ?_;refine AW.ro 10 (λW f=>(J W f).2.2.2.1) h3 uCP (iP HP.d) ?_;refine AW.va 12 (oZ k 132) ?_;refine AW.ro 13 (λW f=>(J W f).2.2.2.2.1) ha u40 i40 ?_;refine AW.va 15 (oZ k 136) ?_;refine AW.ro 16 (λW f=>(J W f).2.2.2.2.2.1) he u40 i40 ?_;refine AW.va 18 (oZ k 140) ?_;refine AW.ro 19 (λW f=>(J W f).2.2.2.2.2.2) h9 u40 i40 ?_;refine AW.ro 21 (λW f=>(F.2.2.1.below f).2.1) j Lf Jf ?_;refine AW.ca 2 (λ_=>D.1 _) (λe w' h=>h.1) ?_;rintro e w4 ⟨h4,E1,P,rfl⟩;simp only[UN,Us,Uu,Uv];refine AW.ca 5 (λ_=>D.2.1 _) (λe w' h=>h.1) ?_;rintro e w5 ⟨o,E2,R,rfl⟩;simp only[UN,Us,Uu,Uv];refine AW.ca 8 (λ_=>D.2.2.1 _) (λe w' h=>h.1) ?_;rintro e w6 ⟨n,E3,V,rfl⟩;simp only[UN,Us,Uu,Uv];refine AW.ca 11 (λ_=>D.2.2.2.1 _) (λe w' h=>h.1) ?_;rintro e w7 ⟨x,E4,X,rfl⟩;simp only[UN,Us,Uu,Uv];refine AW.ca 14 (λ_=>D.2.2.2.2.1 _) (λe w' h=>h.1) ?_;rintro e w8 ⟨s,E5,M,rfl⟩;simp only[UN,Us,Uu,Uv];refine AW.ca 17 (λ_=>D.2.2.2.2.2.1 _) (λe w' h=>h.1) ?_;rintro e w9 ⟨y,E6,Q,rfl⟩;simp only[UN,Us,Uu,Uv];refine AW.ca 20 (λ_=>D.2.2.2.2.2.2 _) (λe w' h=>h.1) ?_;rintro e K ⟨h6,E7,Y,rfl⟩;simp only[UN,Us,Uu,Uv];rw[<-j.out];refine AW.nx 22 (.agg #[r33 P,r33 R,r33 V,r33 X,r32 M,r32 Q,r32 Y,r,A,l,z]) ?_;have b9:=h6;have b8:=y.trans (b9.mono y.size);have b7:=s.trans (b8.mono s.size);have b6:=x.trans (b7.mono x.size);have b5:=n.trans (b6.mono n.size);have b4:=o.trans (b5.mono o.size);have s3:C.heap.size<=w4.heap.size:=h4.size;have q:∀ {W:Ur}{m:Nat}{v:Ut}{b:Bs},C.heap.size<=W.heap.size->ElQ (W.heap.size<=·) m K v b->ElQ (C.heap.size<=·) m K v b:=λhW h=>h.mono2 λg _ S=>UC hW S
 have t5:=UC s3 o.size;have t6:=UC t5 n.size;have t7:=UC t6 x.size;have t8:=UC t7 s.size;have t9:=UC t8 y.size;have T:Hid (RgT (C.heap.size<=·) K p P R V X M Q Y):=⟨(E1.keep (Kq.of_below b4)).mono2 λg _ S=>S,q s3 (E2.keep (Kq.of_below b5)),q t5 (E3.keep (Kq.of_below b6)),q t6 (E4.keep (Kq.of_below b7)),q t7 (E5.keep (Kq.of_below b8)),q t8 (E6.keep (Kq.of_below b9)),q t9 E7⟩
 clear q E1 E2 E3 E4 E5 E6 E7 b4 b5 b6 b7 b8 b9 h4 o n x s y h6 s3 t5 t6 t7 t8 t9;refine AW.fi (us:=[r33 P,r33 R,r33 V,r33 X,r32 M,r32 Q,r32 Y,r,A,l,z]) (Hid.mk' rfl) (by simp only[Ya,Zt,ZK,i.2.1,i.2.2.1,i.2.2.2.1,i.2.2.2.2,show ∀g,(r33 g).oneCell'=true from λ_=>rfl,show ∀g,(r32 g).oneCell'=true from λ_=>rfl,yBA]) iAr (λf=>?_);obtain⟨wB,B⟩:=hE (K.setCells Z 0 [r33 P,r33 R,r33 V,r33 X,r32 M,r32 Q,r32 Y,r,A,l,z]);have r4:=F.2.2.2.below f;have KE:Hid (K.there Z 0 11/\Row wB Z [r33 P,r33 R,r33 V,r33 X,r32 M,r32 Q,r32 Y,r,A,l,z]/\kZ w wB/\RgT (w.heap.size<=·) wB p P R V X M Q Y):=by
  have kq:Kq (C.heap.size<=·) K wB:=by rw[<-B.out];exact Kq.set λg S=>by have:=i.1;omega
  refine⟨r4.2.2,by rw[<-B.out];exact r4.put rfl,by rw[<-B.out];exact RG.below_setCells i.1.1 _ _ _ (F.1.trans (f.mono F.1.size)),(T.keep kq).mono2 λg _ S=>UC F.1.size S⟩
 rw[B.out];refine⟨KE.1,?_⟩;go_wp2_with fail
 refine UE (aG 4 28 rfl KE.2.1 rfl uAr iAr) rfl ?_;exact⟨_,rfl,KE.2.2.1,_,_,_,_,_,_,_,rfl,KE.2.2.2⟩
end
section
variable {N:Nat}
structure Pq where
 p:(Nat->Prop)->Ur->Prop
 kp:∀Q W W',Kq Q W W'->p Q W->p Q W'
 mo:∀Q Q' W,(∀g,g<W.heap.size->Q g->Q' g)->p Q W->p Q' W
abbrev pqS(v:Ut)(n:Nat)(a:Nat->Nat):Pq:=⟨λQ W=>SLq Q W v n a,λ_ _ _ k h=>h.keep k,λ_ _ _ m h=>h.mono2 m⟩
abbrev pqG(v:Ut)(n:Nat)(G H:Nat->List (Nat × Bs))(U:List (Nat × Bs)):Pq:=⟨λQ W=>GRq Q W v n G H U,λ_ _ _ k h=>h.keep k,λ_ _ _ m h=>h.mono2 m⟩
abbrev pqM(v:Ut)(l:List (Nat × Bs)):Pq:=⟨λQ W=>SmQ Q W v l,λ_ _ _ k h=>h.keep k,λ_ _ _ m h=>h.mono2 m⟩
def Nk(k:List (Nat × List Ut))(g:Nat):Prop:=g ∉ k.map (·.1)
structure Mp(w W:Ur)(rs:List (Nat × List Ut))(S:List Pq):Prop where
 bl:kZ w W
 rw:∀x∈rs,w.heap.size<=x.1/\Row W x.1 x.2
 nd:(rs.map (·.1)).Nodup
 ob:∀s∈S,s.p (Nk rs) W
namespace Mp
variable {w W W':Ur}{rs rs':List (Nat × List Ut)}{S S':List Pq}{k r i:Nat}{c c':List Ut}{L L':Bs}
theorem start(w:Ur):Mp w w [] []:=⟨UR _ _,λ_ h=>(UY h).elim,List.nodup_nil,λ_ h=>(UY h).elim⟩
theorem grow(h:Mp w W rs S)(k:kZ W W'):Mp w W' rs S:=⟨h.bl.trans (k.mono h.bl.size),λx hx=>⟨(h.rw x hx).1,(h.rw x hx).2.below k⟩,h.nd,λs b=>s.kp _ _ _ (Kq.of_below k) (h.ob s b)⟩
theorem drew(h:Mp w W rs S):Mp w W.drew rs S:=h.grow ⟨rfl,rfl,rfl,Uw _,λ_ _=>rfl⟩
theorem lt(h:Mp w W rs S){g:Nat}(k:g∈rs.map (·.1)):w.heap.size<=g/\g<W.heap.size:=by
 obtain⟨x,hx,rfl⟩:=Vn.1 k;exact⟨(h.rw x hx).1,(h.rw x hx).2.1⟩
theorem nk(h:Mp w W rs S)(g:Nat)(k:W.heap.size<=g):Nk rs g:=λe=>by have:=(h.lt e).2;omega
theorem at_(h:Mp w W rs S)(i:Nat)(b:rs[i]? = some (k,c):=by rfl):Row W k c:=(h.rw _ (VJ b)).2
theorem key(b:rs[i]? = some (k,c)):k∈rs.map (·.1):=Vn.2 ⟨_,VJ b,rfl⟩
theorem get(h:Mp w W rs S)(j:Nat){s:Pq}(k:S[j]? = some s:=by rfl):s.p (Nk rs) W:=h.ob _ (VJ k)
theorem has(h:Mp w W rs S)(s:Pq)(k:s.p (Nk rs) W)(e:S++[s]=S':=by(simp only[Xa,Xr])<;>rfl):Mp w W rs S':=e ▸ ⟨h.bl,h.rw,h.nd,λx hx=>by
 rcases Wz.1 hx with hx|hx
 ·exact h.ob x hx
 ·rw[WM.1 hx];exact k⟩
theorem gets(h:Mp w W rs S)(c:kZ W W')(s:Pq)(k:s.p (W.heap.size<=·) W')(e:S++[s]=S':=by(simp only[Xa,Xr])<;>rfl):Mp w W' rs S':=(h.grow c).has s (s.mo _ _ _ (λg _ b=>h.nk g b) k) e
theorem q(_:Mp w W rs S):∃Q,Hid (Nk rs=Q):=⟨_,rfl⟩
theorem uP{Q:Nat->Prop}(h:Mp w W rs S)(k:Hid (Nk rs=Q))(j:Nat){s:Pq}(b:S[j]? = some s:=by rfl):s.p Q W:=by rw[<-k.out];exact h.get j b
theorem nkq{Q:Nat->Prop}(h:Mp w W rs S)(k:Hid (Nk rs=Q))(g:Nat)(b:W.heap.size<=g):Q g:=by rw[<-k.out];exact h.nk g b
theorem MH{Q:Nat->Prop}(h:Mp w W rs S)(k:Hid (Nk rs=Q))(s:Pq)(b:s.p Q W)(e:S++[s]=S':=by(simp only[Xa,Xr])<;>rfl):Mp w W rs S':=h.has s (by rw[k.out];exact b) e
theorem ne{Q:Nat->Prop}(_:Mp w W rs S)(d:Hid (Nk rs=Q))(i:Nat)(f:rs[i]? = some (k,c):=by rfl)(g:Nat)(b:Q g):g≠k:=λe=>by
 rw[<-d.out]at b;exact b (by rw[e];exact Vn.2 ⟨_,VJ f,rfl⟩)
theorem add(h:Mp w W rs S)(i:kZ W W')(m:Row W' k c)(n:W.heap.size<=k)(e:rs++[(k,c)]=rs':=by(simp only[Xa,Xr])<;>rfl):Mp w W' rs' S:=by
 subst e;have f:=h.grow i;refine⟨f.bl,λx hx=>?_,?_,λs l=>?_⟩
 ·rcases Wz.1 hx with hx|hx
  ·exact f.rw x hx
  ·rw[WM.1 hx];exact⟨UC h.bl.size n,m⟩
 ·rw[We,YW];refine⟨h.nd,by simp,λa j b d e=>?_⟩;have o:=(h.lt j).2;simp at d;omega
 ·refine s.kp _ _ _ (Kq.of_below i) (s.mo _ _ _ (λg j d e=>?_) (h.ob s l));rw[We,Wz]at e;rcases e with e|e
  ·exact d e
  ·simp at e;omega
theorem adds(h:Mp w W rs S)(l:kZ W W')(ns:List (Nat × List Ut))(c:(ns.map (·.1)).Nodup)(d:∀x∈ns,W.heap.size<=x.1/\Row W' x.1 x.2)(e:rs++ns=rs':=by(simp only[Xa,Xr])<;>rfl):Mp w W' rs' S:=by
 subst e;have f:=h.grow l;have i:∀g,g∈ns.map (·.1)->W.heap.size<=g:=λg j=>by
  obtain⟨x,hx,rfl⟩:=Vn.1 j;exact(d x hx).1
 refine⟨f.bl,λx hx=>?_,?_,λs n=>?_⟩
 ·rcases Wz.1 hx with hx|hx
  ·exact f.rw x hx
  ·exact⟨UC h.bl.size (d x hx).1,(d x hx).2⟩
 ·rw[We,YW];refine⟨h.nd,c,λa m b k e=>?_⟩;have p:=(h.lt m).2;have o:=i b k;omega
 ·refine s.kp _ _ _ (Kq.of_below l) (s.mo _ _ _ (λg j c e=>?_) (h.ob s n));rw[We,Wz]at e;rcases e with e|e
  ·exact c e
  ·have:=i g e;omega
theorem new{T:U8}(h:Mp w W rs S)(b:Hid (W.heap.size=k))(d:Hid (W.alloc (.cells c.toArray T)=W'))(e:rs++[(k,c)]=rs':=by(simp only[Xa,Xr])<;>rfl):Mp w W' rs' S:=by
 have f:=aN b d;exact h.add f.1 f.2 (Nat.le_of_eq b.out) e
theorem keys(b:rs[i]? = some (k,c)):(rs.set i (k,c')).map (·.1)=rs.map (·.1):=by
 rw[List.map_set];refine List.ext_getElem? λj=>?_
 rw[List.getElem?_set];have d:=(UF.1 b).1;split
 ·rename_i e
  subst e;rw[yCj (by simpa using d),Vz,b];rfl
 ·rfl
theorem Rl(b:rs[i]? = some (k,c)):Nk (rs.set i (k,c'))=Nk rs:=funext λg=>by unfold Nk;rw[keys b]
theorem turn(h:Mp w W rs S)(d:rs[i]? = some (k,c))(B:kZ w W')(r:W.heap.size<=W'.heap.size)(ho:∀g,g≠k->g<W.heap.size->W'.heap[g]? = W.heap[g]?)(A:Row W' k c'):Mp w W' (rs.set i (k,c')) S:=by
 refine⟨B,λx hx=>?_,by rw[keys d];exact h.nd,λs p=>?_⟩
 ·have a:=hx;obtain⟨j,f,e⟩:=List.mem_iff_getElem.1 hx;rw[List.length_set]at f;rw[List.getElem_set]at e;by_cases b:i=j
  ·rw[yCj b]at e;rw[<-e];exact⟨(h.lt (key d)).1,A⟩
  ·rw[yCk b]at e;have z:rs[j]∈rs:=List.getElem_mem f;have hh:=h.rw _ z;rw[<-e];have l:rs[j].1≠k:=λe'=>by
    have o:=(UF.1 d)
    obtain⟨m,q⟩:=o;have v:=Z2.1 h.nd;have u:(rs.map (·.1))[i]'(by simpa using m)=k:=by rw[Xd,q]
    have t:(rs.map (·.1))[j]'(by simpa using f)=k:=by rw[Xd];exact e'
    rcases Wq i j with n|y
    ·exact v i j _ _ n (u.trans t.symm)
    ·exact v j i _ _ oM (t.trans u.symm)
   exact⟨hh.1,aV hh.2 r (ho _ l hh.2.1)⟩
 ·rw[Rl d];exact s.kp _ _ _ ⟨r,λg b o=>ho g (λe=>b (by rw[e];exact key d)) o⟩ (h.ob s p)
theorem upd{o:Nat}{us:List Ut}(h:Mp w W rs S)(i:Nat)(b:Hid (W.setCells k o us=W'))(d:Row (W.setCells k o us) k c')(f:rs[i]? = some (k,c):=by rfl)(e:rs.set i (k,c')=rs':=by(simp only[Uu,Uv])<;>rfl):Mp w W' rs' S:=by
 subst e;rw[b.out]at d;refine h.turn f ?_ ?_ (λg j _=>?_) d
 ·rw[<-b.out];exact RG.below_setCells (h.lt (key f)).1 _ _ _ h.bl
 ·rw[<-b.out,setCells_size];exact Uw _
 ·rw[<-b.out];exact aH k us o W g j
theorem put(h:Mp w W rs S)(i:Nat)(f:Hid (W.setCells k 0 c'=W'))(b:rs[i]? = some (k,c):=by rfl)(d:c'.length=c.length:=by rfl)(e:rs.set i (k,c')=rs':=by(simp only[Uu,Uv])<;>rfl):Mp w W' rs' S:=h.upd i f ((h.at_ i b).put d) b e
theorem th(h:Mp w W rs S)(i:Nat)(d:rs[i]? = some (k,c):=by rfl)(b:c'.length=c.length:=by rfl):W.there k 0 c'.length:=by rw[b];exact(h.at_ i d).2.2
theorem say(h:Mp w W rs S)(i:Nat)(k:SP.Only r 0 32 W W')(j:Holds encB W' r 0 L')(c:rs[i]? = some (r,aA L):=by rfl)(e:rs.set i (r,aA L')=rs':=by(simp only[Uu,Uv])<;>rfl):Mp w W' rs' S:=by
 subst e;have b:=h.lt (key c);refine h.turn c (h.bl.trans (wY k h.bl.size b.1)) k.size (λg f d=>k.block g d f) (pW j (Ux b.2 k.size))
theorem log(h:Mp w W rs S)(i:Nat)(k:rs[i]? = some (r,aA L):=by rfl):Holds encB W r 0 L:=row_holds (h.at_ i k)
theorem wk(h:Mp w W rs S)(i:Nat)(d:rs[i]? = some (k,c):=by rfl):∃c,Mp w W (rs.set i (k,c)) S:=⟨c,by
 obtain⟨e,b⟩:=UF.1 d;rw[<-b,List.set_getElem_self];exact h⟩
end Mp
abbrev Iv.mx(w:Ur)(d:List (Nat × List Ut))(S:List Pq)(i k:Nat)(b:Bool):Iv:=⟨λW=>∃c,Mp w W (d.set i (k,c)) S,λ_ _ e ⟨c,h⟩=>⟨c,h.grow e⟩,b⟩
abbrev Iv.mp(w:Ur)(k:List (Nat × List Ut))(S:List Pq)(b:Bool):Iv:=⟨λW=>Mp w W k S,λ_ _ c h=>h.grow c,b⟩
end
namespace SPA
variable {N:Nat}[NeZero N]{M:Type}
namespace Md
variable (D:Md N M)
theorem cancel(a b c:M):D.ad a b=D.ad a c↔b=c:=by
 constructor
 ·intro h;have k:D.ad (D.ac (-1) a) (D.ad a b)=D.ad (D.ac (-1) a) (D.ad a c):=by rw[h]
  rw[<-D.assoc,<-D.assoc,D.comm _ a,D.AQ,D.zadd,D.zadd]at k;exact k
 ·rintro rfl;rfl
theorem Ir(Y W T:Nat->(Fin N))(z:(Fin N))(k:Nat->M)(n:Nat)(h:∀i,i<n->Y i*W i=1):
 D.dt (λi=>z*Y i+z*z*T i) (λi=>D.ac (W i) (k i)) n=D.dt (λi=>z+z*z*(T i*W i)) k n:=
 D.xX n λi b=>by
  have c:=h i b;rw[D.acAc,show(z*Y i+z*z*T i)*W i=z+z*z*(T i*W i) by
   generalize Y i=y,W i=w,T i=t at *;grind]
theorem Gm(H G:M)(t d tau:(Fin N))(A B E:M):D.cm H G (t-d) tau=D.ad (D.ad A B) E↔D.cm H G t tau=D.ad (D.ad A (D.ac d H)) (D.ad B E):=by
 rw[<-D.cancel (D.ac d H)];have k:D.ad (D.ac d H) (D.cm H G (t-d) tau)=D.cm H G t tau:=by
  unfold cm;rw[<-D.assoc,<-D.adAc,show d+(t-d)=t by grind]
 have b:D.ad (D.ac d H) (D.ad (D.ad A B) E)=D.ad (D.ad A (D.ac d H)) (D.ad B E):=by ac_rfl
 rw[k,b]
theorem Gx(A X G:M)(mu x t w:(Fin N))(L K U:M):
 D.ad (D.ad (D.ad (D.ad A (D.ac x X)) (D.ac (-1) (D.ac mu G))) (D.ad L K)) (D.ac t (D.ac w U))=D.ad (D.ad (D.ad (D.ad A (D.ac x X)) (D.ac (-mu) G)) (D.ad L K)) (D.ac (t*w) U):=by
 rw[D.acAc,D.acAc,show(-1:(Fin N))*mu = -mu by grind]
end Md
end SPA
section
open SPA
variable {N:Nat}[NeZero N]{M:Type}
structure Rv(N:Nat) where
 v:Nat
 n:Nat
 s:Nat->Fin N
 q:Nat->Fin N
 al:Fin N
 rho:Fin N
 t1:Fin N
 t2:Fin N
 k:Fin N
 y:Fin N
 z:Fin N
 x:Fin N
 w:Fin N
namespace Rv
variable (R:Rv N)
def l(i:Nat):Fin N:=btF N R.v i
def m(i:Nat):Fin N:=btF N R.v i-1
def a0(i:Nat):Fin N:=R.l i+-R.z
def sh(i:Nat):Fin N:=R.z*pwF R.y i+R.z*R.z*pwF (ofF N 2) i
def b0(i:Nat):Fin N:=R.m i*pwF R.y i+R.sh i
def b1(i:Nat):Fin N:=R.q i*pwF R.y i
def a(i:Nat):Fin N:=R.a0 i+R.s i*R.x
def b(i:Nat):Fin N:=R.b0 i+R.b1 i*R.x
def c1:Fin N:=Md.pr R.a0 R.b1 R.n+Md.pr R.s R.b0 R.n
def c2:Fin N:=Md.pr R.s R.b1 R.n
def t:Fin N:=Md.pr R.a R.b R.n
def tau:Fin N:=R.t1*R.x+R.t2*R.x*R.x+R.z*R.z*R.k
def mu:Fin N:=R.al+R.rho*R.x
def d:Fin N:=(R.z-R.z*R.z)*Md.pr (λ_=>1) (pwF R.y) R.n-R.z*R.z*R.z*ofF N (2^R.n-1)
variable (D:Md N M) (G H U:M) (g k:Nat->M)
def pA:M:=D.ad (D.ac R.al G) (D.ad (D.dt R.l g R.n) (D.dt R.m k R.n))
def pS:M:=D.ad (D.ac R.rho G) (D.ad (D.dt R.s g R.n) (D.dt R.q k R.n))
def pV:M:=D.cm H G (ofF N R.v) R.k
def p1:M:=D.cm H G R.c1 R.t1
def p2:M:=D.cm H G R.c2 R.t2
def hh(i:Nat):M:=D.ac (pwF (ivF R.y) i) (k i)
def rg:Md.Rg (Fin N):=rgF R.v R.s R.q R.y (ivF R.y) R.z R.x
theorem Su:R.rg.a0=R.a0:=funext λi=>by
 show R.l i-R.z=R.l i+-R.z;grind
theorem Ss:R.rg.b0=R.b0:=funext λi=>by
 show pwF R.y i*(R.m i+R.z)+R.z*R.z*pwF (ofF N 2) i=R.m i*pwF R.y i+(R.z*pwF R.y i+R.z*R.z*pwF (ofF N 2) i);grind
theorem PQ:R.rg.b1=R.b1:=funext λi=>by
 show pwF R.y i*R.q i=R.q i*pwF R.y i;grind
theorem e_a:R.rg.a=R.a:=funext λi=>by
 show R.rg.a0 i+_=_;rw[Su];rfl
theorem e_b:R.rg.b=R.b:=funext λi=>by
 show R.rg.b0 i+R.rg.b1 i*_=_;rw[Ss,PQ];rfl
theorem IJ(b:Nat->Fin N):∀n,Md.pr (λ_=>1) b n=(SPA.own N).sm b n
 | 0=>rfl
 | n+1=>by
  show Md.pr (λ_=>1) b n+1*b n=(SPA.own N).sm b n+b n;rw[IJ b n];grind
theorem e_d:R.rg.d R.n=R.d:=by
 unfold d;rw[IJ];exact QU _ _ _ _ _ _ _ _
theorem sums(d:IsP N)(e:R.y.val≠0)(hv:R.v<2^R.n):D.cm H G (R.t-R.d) R.tau=D.ad (D.ad (D.ac (R.z*R.z) (R.pV D G H)) (D.ac R.x (R.p1 D G H))) (D.ac (R.x*R.x) (R.p2 D G H)):=by
 rw[D.Gm];have h:=D.Dc R.rg R.n (IB R.v R.s R.q R.z R.x (sM d R.y e) R.n) H G R.k R.t1 R.t2;have ev:R.rg.v R.n=ofF N R.v:=QT _ _ _ _ _ _ _ _ hv;have k:R.rg.t1 R.n=R.c1:=by
  show Md.pr R.rg.a0 R.rg.b1 R.n+Md.pr R.s R.rg.b0 R.n=_;rw[Su,PQ,Ss];rfl
 have c:R.rg.t2 R.n=R.c2:=by
  show Md.pr R.s R.rg.b1 R.n=_;rw[PQ];rfl
 rw[ev,k,c,e_d,e_a,e_b]at h;have b:R.t1*R.x+R.t2*(R.x*R.x)+R.z*R.z*R.k=R.tau:=by
  show _=R.t1*R.x+R.t2*R.x*R.x+R.z*R.z*R.k;grind
 rw[show R.rg.x=R.x from rfl,show R.rg.z=R.z from rfl,b]at h;exact h
theorem point(b:IsP N)(c:R.y.val≠0):
 D.ad (D.ad (D.ad (D.ad (R.pA D G g k) (D.ac R.x (R.pS D G g k))) (D.ac (-1) (D.ac R.mu G))) (D.ad (D.dt (λ_=>-R.z) g R.n) (D.dt R.sh (R.hh D k) R.n))) (D.ac R.t (D.ac R.w U))=D.hd R.a R.b g (R.hh D k) (D.ac R.w U) R.n:=by
 rw[D.Gx];have h:=D.B8 R.rg R.n (IB R.v R.s R.q R.z R.x (sM b R.y c) R.n) G g k U R.al R.rho R.w;have d:=D.Ir (pwF R.y) (pwF (ivF R.y)) (pwF (ofF N 2)) R.z k R.n λi _=>Dt (sM b R.y c) i
 rw[e_a,e_b]at h;rw[show D.dt R.sh (R.hh D k) R.n=_ from d];exact h
end Rv
end
section
open Go.Shelf
section
variable {P:VD}{ops:Array Vk}{rest:List Vk}{op:Vk}{a:Act}{w w':Ur}{v:Ut}{Q:Yo->Act->Ur->Prop}
theorem wpList_build(b:op.guard=none)(d:U8)(n:Nat)(k:Array (Nat × XG))(_:op.op=.buildSlice d n k)(e:(U5 a.eval op).run P w=.ok (.value v) w')(h:wpList P ops Q rest (a.put op.dst v) w'):wpList P ops Q (op :: rest) a w:=
 Xg b λK c=>by
  unfold VT;rw[e];exact c _ _ h
end
variable {P:Nat}[NeZero P]
def iE:ByteArray:=⟨#[118,97,108,117,101]⟩
noncomputable def cmt (P:Nat) [NeZero P] (n m:Nat):EC.Pt P:=tot (λj=>if j=0 then .some (hpt P iE []) else gG P) 2 (λj=>if j=0 then(n:Int) else(m:Int))
def Bt(P:Nat)[NeZero P](N:Nat)(w:Ur)(b k:Bs)(e:Ut)(w':Ur):Prop:=match rq N b,rq N k with
 | some n,some m=>Hb w (wr (cmt P n m)) e w'
 | _,_=>Kv 3 e
theorem Lg{w:Ur}{v b:Ut}{d k:Bs}(T:U8)(h:Arg w v d)(f:Arg w b k):vT (w.alloc (.cells #[v,b] T)) (some (aZ w.heap.size)) 2 (λj=>if j=0 then d else k):=λ_ =>
 ⟨w.heap.size,rfl,by rw[UB];omega,λj g=>by
  have e:=(Made.alloc w [v,b] T).range;have c:j=0\/j=1:=oM;rcases c with rfl|rfl
  ·exact⟨v,e 0 _ rfl,h.below (aC w _)⟩
  ·exact⟨b,e 1 _ rfl,f.below (aC w _)⟩⟩
theorem I2(w:Ur):PartOk w (.slice none 0 0) []:=⟨none,0,0,0,#[],rfl,rfl,Uw _,dC,U4 rfl⟩
theorem zQ(q:Fin P × Fin P):Pair q.1 q.2 (.some q:EC.Pt P):=⟨rfl,rfl⟩
theorem PZ(C : Fld P){n m : Nat}(hn : n < top)(hm : m < top){ns : Nat -> Nat}{xs ys : Nat -> Fin P}(h0 : ns 0 = n)(h1 : ns 1 = m)(hx0 : xs 0 = (hpt P iE []).1)(hy0 : ys 0 = (hpt P iE []).2)(hx1 : xs 1 = gX P)(hy1 : ys 1 = gY P):
    tD (ptP (iH ns xs ys 2 257)).1 (ptP (iH ns xs ys 2 257)).2 = wr (cmt P n m) := by
  have hJ := BE C (N := 2) (ns := ns) (xs := xs) (ys := ys) (p := λj => if j = 0 then(.some (hpt P iE []) : EC.Pt P) else gG P)
    (fun j hj => by have : j = 0 ∨ j = 1 := oM
                    rcases this with rfl | rfl
                    · rw [h0]; exact hn
                    · rw [h1]; exact hm)
    (fun j hj => by have : j = 0 ∨ j = 1 := oM
                    rcases this with rfl | rfl
                    · rw [hx0, hy0]; exact zQ _
                    · rw [hx1, hy1]; exact zQ (gX P, gY P))
    (fun j hj => by have : j = 0 ∨ j = 1 := oM
                    rcases this with rfl | rfl
                    · exact AY C _ _
                    · exact Cr C)
  have e1 := vM C (hJ.pair C) hJ.2;have e2 : tot (λj => if j = 0 then(.some (hpt P iE []) : EC.Pt P) else gG P) 2 (λj => (ns j : Int)) = cmt P n m := eJ 2 λj hj => by
    have : j = 0 \/ j = 1 := oM;rcases this with rfl | rfl
    · rw [h0]; rfl
    · rw [h1]; rfl
  rw [e2]at e1;exact e1
theorem CX{N:Nat}(C:Fld P)(hG:Gap 4624529908474429119 4994812053365940164 1 N)(hN:N<=top)(v0 v1:Ut)(E F:Bs)(w:Ur)(h0:Arg w v0 E)(h1:Arg w v1 F):
 UH prog 11 #[v0,v1] w (rZ w λe w'=>Bt P N w E F e w'):=by
 have hA:=Lg 23 h0 h1;obtain⟨p0,n0,c0,rfl,-,-⟩:=h0;obtain⟨p1,n1,c1,rfl,-,-⟩:=h1;have G:=Ob hG 2 2 dC _ _ _ hA;clear hA;go_enter func11,ntmps11;go_wp2_with fail
 refine G.mono ?_;rintro e b ⟨v,rfl,B,⟨k,h5,S,rfl,a⟩|⟨⟨j,Y,c⟩,rfl⟩⟩
 ·obtain⟨n,hn,U⟩:=a 0 dC;obtain⟨m,hm,X⟩:=a 1 dC;clear a G;have HB:Hid (kZ w b):=(aC w _).trans (B.mono (by rw[UB];omega));have R:Hid (k<b.heap.size/\b.rangeAt k (4*0) (wn n)/\b.rangeAt k (4*1) (wn m)):=⟨S,U,X⟩
  have Q:Hid (rq N E=some n/\rq N F=some m):=⟨hn,hm⟩
  clear B h5 S U X hn hm;go_wp2_with fail
  refine(wV iE none 0 0 b).mono ?_;rintro e w2 ⟨v,rfl,rfl,rfl⟩;have hF:=Ae C iE none 0 0 [] b dC (I2 b);obtain⟨q,hq⟩:∃q,Hid (hpt P iE []=q):=⟨_,rfl⟩
  rw[hq.out]at hF;obtain⟨x,y⟩:=q;obtain⟨gx,W⟩:∃gx,Hid (gX P=gx):=⟨_,rfl⟩
  obtain⟨o,h2⟩:∃o,Hid (gY P=o):=⟨_,rfl⟩
  have D:=Eh C;rw[W.out,h2.out]at D;obtain⟨v4,L⟩:∃v4,Hid (pv x y=v4):=⟨_,rfl⟩
  obtain⟨v5,I⟩:∃v5,Hid (pv gx o=v5):=⟨_,rfl⟩
  replace hF:UH prog 49 #[.func (.func 112) #[] #[jZ b.heap.size,.pointer (some ⟨b.heap.size+1,0,none⟩)]] ((b.alloc (.cells #[.string iE] 9)).alloc (.cells #[.slice none 0 0] 23)) (rZ b λe w'=>e=v4):=by rw[<-L.out];exact hF
  rw[I.out]at D;go_wp2_with fail
  refine hF.mono ?_;rintro e w3 ⟨v,rfl,t,rfl⟩;have J:Hid (kZ w w3):=HB.out.trans (t.mono HB.out.size);have l:Hid (k<w3.heap.size/\w3.rangeAt k (4*0) (wn n)/\w3.rangeAt k (4*1) (wn m)):=⟨Ux R.out.1 t.size,RG.range_below R.out.2.1 t R.out.1,RG.range_below R.out.2.2 t R.out.1⟩
  clear hF t HB R;go_wp2_with fail
  refine(D _).mono ?_;rintro e p ⟨v,rfl,r,rfl⟩;have M:Hid (kZ w p):=J.out.trans (r.mono J.out.size);have d:Hid (k<p.heap.size/\p.rangeAt k (4*0) (wn n)/\p.rangeAt k (4*1) (wn m)):=⟨Ux l.out.1 r.size,RG.range_below l.out.2.1 r l.out.1,RG.range_below l.out.2.2 r l.out.1⟩
  clear D r J l;obtain⟨f,O⟩:∃f,Hid (p.alloc (.cells ((ws x++ws y)++(ws gx++ws o)).toArray 93)=f):=⟨_,rfl⟩
  go_wp2_with (refine wpList_build (v:=sZ p.heap.size 2 2) (w':=f) rfl 100 2 _ rfl ?_ ?_;rw[<-O.out,<-L.out,<-I.out];kernel_rfl;refine Hid.out ?_)
  have K:Hid (kZ w f/\k<f.heap.size/\p.heap.size<f.heap.size/\(∀i,i<2->f.rangeAt k (4*i) (wn (if i=0 then n else m)))/\∀i,i<2->f.rangeAt p.heap.size (8*i) (ws (if i=0 then x else gx)++ws (if i=0 then y else o))):=by
   have u:=Made.alloc p ((ws x++ws y)++(ws gx++ws o)) 93;have T:p.alloc (.cells ((ws x++ws y)++(ws gx++ws o)).toArray 93)=f:=O.out;rw[T]at u;refine⟨M.out.trans (u.bel.mono M.out.size),Ux d.out.1 u.bel.size,u.lt,λi H=>?_,λi H=>?_⟩
   ·have:i=0\/i=1:=oM;rcases this with rfl|rfl
    ·exact RG.range_below d.out.2.1 u.bel d.out.1
    ·exact RG.range_below d.out.2.2 u.bel d.out.1
   ·have:i=0\/i=1:=oM;rcases this with rfl|rfl
    ·intro j v Y;have A:j<8:=(UF.1 Y).1;have:=u.range j v (by rw[List.getElem?_append_left (show j<(ws x++ws y).length from A)];exact Y);exact this
    ·intro j v Y;have:=u.range (8+j) v (by rw[List.getElem?_append_right (show(ws x++ws y).length<=8+j from Nat.le_add_right 8 j),show 8+j-(ws x++ws y).length=j from Nat.add_sub_cancel_left 8 j];exact Y);rw[UD]at this;exact this
  clear O M d L I;show wpList _ _ _ _ _ _;have G:UH prog 48 #[sZ k 2 2,sZ p.heap.size 2 2] f (rZ f λe w'=>e=pv (ptP (iH (λi=>if i=0 then n else m) (λi=>if i=0 then x else gx) (λi=>if i=0 then y else o) 2 257)).1 (ptP (iH (λi=>if i=0 then n else m) (λi=>if i=0 then x else gx) (λi=>if i=0 then y else o) 2 257)).2):=by
   refine(H9 C 2 dC (λi=>if i=0 then n else m) (λi=>if i=0 then x else gx) (λi=>if i=0 then y else o) (λi H=>?_) k p.heap.size f K.out.2.1 K.out.2.2.1 K.out.2.2.2.1 K.out.2.2.2.2).mono ?_
   ·have:i=0\/i=1:=oM;rcases this with rfl|rfl
    ·exact wN hN Q.out.1
    ·exact wN hN Q.out.2
   ·rintro e w' ⟨v,rfl,u,s,rfl,rfl⟩;exact⟨_,rfl,u,rfl⟩
  have hW:=PZ C (n:=n) (m:=m) (wN hN Q.out.1) (wN hN Q.out.2) (ns:=λi=>if i=0 then n else m) (xs:=λi=>if i=0 then x else gx) (ys:=λi=>if i=0 then y else o) rfl rfl (by rw[hq.out];rfl) (by rw[hq.out];rfl) (by rw[W.out];rfl) (by rw[h2.out];rfl);generalize ptP (iH (λi=>if i=0 then n else m) (λi=>if i=0 then x else gx) (λi=>if i=0 then y else o) 2 257)=z at G hW;have A:∀w,UH prog 52 #[pv z.1 z.2] w (rZ w λe w'=>mL w (tD z.1 z.2) e w'):=vK C _ _;rw[hW]at A;clear hW;generalize pv z.1 z.2=v6 at G A;go_wp2_with fail
  refine G.mono ?_;rintro e w6 ⟨v,rfl,V,rfl⟩;have H:Hid (kZ w w6):=K.out.1.trans (V.mono K.out.1.size);clear V K G;go_wp2_with fail
  refine(A _).mono ?_;rintro e w7 ⟨v,rfl,Z,g,u,rfl,h7,h4,h3,T⟩;have h6:Hid (kZ w w7):=H.out.trans (Z.mono H.out.size);have HO:Hid (Bt P N w E F (.tuple #[sZ g 33 u,iZ 0]) w7):=by
   show Bt P N w E F (.tuple #[sZ g 33 u,iZ 0]) w7;unfold Bt;rw[Q.out.1,Q.out.2];exact⟨g,u,rfl,h7,UC H.out.size h4,h3,T⟩
  clear Z T A;go_wp2
  go_ret2
  exact⟨_,rfl,h6.out,HO.out⟩
 ·have HB:Hid (kZ w b):=(aC w _).trans (B.mono (by rw[UB];omega));have HO:Hid (Bt P N w E F (.tuple #[.slice none 0 0,iZ 3]) b):=by
   show Bt P N w E F (.tuple #[.slice none 0 0,iZ 3]) b;unfold Bt;have:j=0\/j=1:=oM;rcases this with rfl|rfl
   ·have c:rq N E=none:=c;rw[c];rfl
   ·have c:rq N F=none:=c;rw[c];cases rq N E<;>rfl
  clear B c G;go_wp2
  go_ret2
  exact⟨_,rfl,HB.out,HO.out⟩
end
section
variable {P:Nat}[NeZero P]{N:Nat}
theorem kJ(O:Ord N){n:Nat}(k:n<N):rq N (bx n)=some n:=by
 have hv:beV (bx n).toList=n:=Bm (Ux k O.le);unfold rq;rw[hv,yCj ⟨eE n,k⟩]
def Ez(W:Ur)(v:Ut)(T:Bs):Prop:=∃g c,v=sZ g 33 c/\33<=c/\g<W.heap.size/\Holds encB W g 0 T
theorem Ez.grow{W W':Ur}{v:Ut}{T:Bs}(h:Ez W v T)(b:kZ W W'):Ez W' v T:=by
 obtain⟨g,c,f,e,k,d⟩:=h;exact⟨g,c,f,e,Ux k b.size,Holds.below d b k⟩
def Et(W:Ur)(v:Ut)(T:Bs):Prop:=∃u,v=.tuple #[u,iZ 0]/\Ez W u T
section
variable (w:Ur) (k2 k3 k4 a b:Nat) (T:Bs)
def RC1:Nat->Ut->Ur->Prop
 | 0,v,_=>v=nv a
 | 1,v,W=>El 32 W v (bx a)
 | 2,v,_=>v=nv b
 | 3,v,W=>El 32 W v (bx b)
 | 4,v,W=>Et W v T
 | 5,v,W=>Et W v T
 | 6,v,W=>Ez W v T
 | 7,v,_=>v=iZ 0
 | 8,v,W=>Ez W v T
 | 9,v,_=>v=iZ 0
 | _,_,_=>True
def GC1:Gw:=⟨RC1 a b T,λW=>Kp w W [(k4,z33),(k3,wn b),(k2,wn a)],λi v W W' k h=>by
 match i,h with
 | 0,h=>exact h
 | 1,h=>exact El.below h k (Uw _)
 | 2,h=>exact h
 | 3,h=>exact El.below h k (Uw _)
 | 4,h=>obtain⟨u,d,c⟩:=h;exact⟨u,d,c.grow k⟩
 | 5,h=>obtain⟨u,d,c⟩:=h;exact⟨u,d,c.grow k⟩
 | 6,h=>exact Ez.grow h k
 | 7,h=>exact h
 | 8,h=>exact Ez.grow h k
 | 9,h=>exact h
 | _+10,_=>trivial,λW W' k h=>h.grow k⟩
end
theorem oL(C:Fld P)(O:Ord N){a b:Nat}(L:a<N)(R:b<N):Gives 69 #[nv a,nv b] (pvl (wr (cmt P a b))):=by
 intro w;obtain⟨T,G⟩:∃T,Hid (wr (cmt P a b)=T):=⟨_,rfl⟩
 have K:T.size=33:=by rw[<-G.out];exact aT _
 have r:Hid (Ord N/\a<N/\b<N):=⟨O,L,R⟩
 have X:Hid (∀(v0 v1:Ut) (W:Ur),El 32 W v0 (bx a)->El 32 W v1 (bx b)->UH prog 11 #[v0,v1] W (rZ W λe w'=>Et w' e T)):=λv0 v1 W h0 h1=>by
  refine(CX (N:=N) C O.gap O.le v0 v1 (bx a) (bx b) W h0.arg h1.arg).mono ?_;rintro e W' ⟨u,rfl,f,hR⟩;unfold Bt at hR;rw[kJ O L,kJ O R]at hR;obtain⟨g,c,rfl,p,q,k,i⟩:=hR;rw[G.out]at i;exact⟨_,rfl,f,_,rfl,g,c,rfl,p,k,i⟩
 rw[G.out];clear C O G L R;obtain⟨va,z⟩:∃v,Hid (nv a=v):=⟨_,rfl⟩
 obtain⟨vb,t⟩:∃v,Hid (nv b=v):=⟨_,rfl⟩
 have Q:=boxS a w;obtain⟨i,l⟩:∃i,Hid (w.alloc (.cells (wn a).toArray 49)=i):=⟨_,rfl⟩
 have F:=boxS b i;obtain⟨j,n⟩:∃j,Hid (i.alloc (.cells (wn b).toArray 49)=j):=⟨_,rfl⟩
 obtain⟨m,f⟩:∃m,Hid (j.alloc (.cells z33.toArray 103)=m):=⟨_,rfl⟩
 rw[z.out,l.out]at Q;rw[t.out,n.out]at F;rw[z.out,t.out];have J:i.heap.size=w.heap.size+1:=by rw[<-l.out,UB]
 have M:j.heap.size=w.heap.size+2:=by rw[<-n.out,UB,J]
 rw[J]at F;have D:Hid (Kp w m [(w.heap.size+2,z33),(w.heap.size+1,wn b),(w.heap.size,wn a)]):=by
  have p:Row i w.heap.size (wn a):=by rw[<-l.out];exact aE w _ _
  have q:Row j (w.heap.size+1) (wn b):=by rw[<-n.out,<-J];exact aE i _ _
  have k:Row m (w.heap.size+2) z33:=by rw[<-f.out,<-M];exact aE j _ _
  have b1:kZ w i:=by rw[<-l.out];exact aC w _
  have s:kZ i j:=by rw[<-n.out];exact aC i _
  have o:kZ j m:=by rw[<-f.out];exact aC j _
  refine⟨(b1.trans (s.mono oM)).trans (o.mono oM),λx hx=>?_⟩;simp only[VX,UY,or_false]at hx;rcases hx with rfl|rfl|rfl
  ·exact k
  ·exact q.below o
  ·exact(p.below s).below o
 have Y:=Hid.mk' Q;have BB:=Hid.mk' F;have Z:=Hid.mk' M;clear Q F J M;go_enter func69,ntmps69;go_wp2_with (first|(refine aF (u:=va) (v:=jZ w.heap.size) (w':=i) rfl 49 (.tmp 0) rfl ?_ ?_ ?_;rfl;exact Y.out)|(refine aF (u:=vb) (v:=.pointer (some ⟨w.heap.size+1,0,none⟩)) (w':=j) rfl 49 (.tmp 1) rfl ?_ ?_ ?_;rfl;exact BB.out)|(refine bG (v:=.pointer (some ⟨w.heap.size+2,0,none⟩)) (w:=j) (w':=m) rfl (.alloc 103) rfl ?_ ?_;(rw[<-f.out,<-Z.out];kernel_rfl))|fail)
 clear Y BB l n f Z;refine(GC1 w w.heap.size (w.heap.size+1) (w.heap.size+2) a b T).draws kR kR ⟨
  iQ 49 2 rfl u40 λx W k=>⟨w.heap.size,0,wn a,k.o 2 kR,(k.b.at 2 rfl).2.1,i40,rfl⟩,
  gK λx W k=>⟨[(8,nv a)],141,#[nv a],⟨k.n 0 8 kR kR,yCl⟩,kR,by
   refine(qO r.out.1 r.out.2.1 W).mono ?_;rintro e W' ⟨u,rfl,p,o,rfl⟩;exact⟨_,rfl,o.bel,El.of_made o (eE a)⟩⟩,
  iQ 49 3 rfl u40 λx W k=>⟨w.heap.size+1,0,wn b,k.o 3 kR,(k.b.at 1 rfl).2.1,i40,rfl⟩,
  gK λx W k=>⟨[(10,nv b)],141,#[nv b],⟨k.n 2 10 kR kR,yCl⟩,kR,by
   refine(qO r.out.1 r.out.2.2 W).mono ?_;rintro e W' ⟨u,rfl,p,o,rfl⟩;exact⟨_,rfl,o.bel,El.of_made o (eE b)⟩⟩,
  gK λx W k=>⟨[(9,x.eval (.tmp 9)),(11,x.eval (.tmp 11))],11,#[x.eval (.tmp 9),x.eval (.tmp 11)],⟨rfl,rfl,yCl⟩,kR,X.out _ _ W (k.n 1 9 kR kR) (k.n 3 11 kR kR)⟩,
  bN λx W k=>⟨[(12,x.eval (.tmp 12))],x.eval (.tmp 12),W,⟨rfl,yCl⟩,kR,UR _ _,k.n 4 12 kR kR⟩,
  bN λx W k=>by
   obtain⟨u,o,p⟩:=show Et W (x.eval (.tmp 7)) T from k.n 5 7 kR kR
   exact⟨[(7,.tuple #[u,iZ 0])],u,W,⟨o,yCl⟩,kR,UR _ _,p⟩,
  bN λx W k=>by
   obtain⟨u,o,p⟩:=show Et W (x.eval (.tmp 7)) T from k.n 5 7 kR kR
   exact⟨[(7,.tuple #[u,iZ 0])],iZ 0,W,⟨o,yCl⟩,kR,UR _ _,rfl⟩,
  bN λx W k=>⟨[(13,x.eval (.tmp 13))],x.eval (.tmp 13),W,⟨rfl,yCl⟩,kR,UR _ _,k.n 6 13 kR kR⟩,
  bN λx W k=>⟨[(14,iZ 0)],iZ 0,W,⟨k.n 7 14 kR kR,yCl⟩,kR,UR _ _,rfl⟩,yCl⟩ D.out.drew ?_
 intro V p y s;obtain⟨g,cg,E,-,k3,S⟩:=show Ez p (V 8) T from y 8 (Nat.lt_of_succ_le (Nat.le_of_ble_eq_true kR))
 have o:Kp w p [(w.heap.size+2,z33),(w.heap.size+1,wn b),(w.heap.size,wn a)]:=s;have I:Hid (Row p (w.heap.size+2) z33/\kZ w p/\Row p g (aA T)):=⟨o.at 0 rfl,o.bl,pW S k3⟩
 dsimp only[bU,VK];simp only[UN,Us,Uu,Uv];rw[E];clear y s E o D k3 S r X;have h2:=FU g cg;obtain⟨m,f⟩:∃m,Hid (p.setCells (w.heap.size+2) 0 (aA T)=m):=⟨_,rfl⟩
 have k:(aA T).length=33:=aB K;have D:Hid (Row m (w.heap.size+2) (aA T)/\kZ w m):=by rw[<-f.out];exact⟨I.out.1.put (by rw[k];rfl),RG.below_setCells oM _ _ _ I.out.2.1⟩
 obtain⟨vt,B⟩:∃vt,Hid (U3 (aA T).toArray=vt):=⟨_,rfl⟩
 obtain⟨d,A,q⟩:=Uy.1 uCP;have U:Hid (prog.underlying 103=some d/\d.isRow=true):=⟨A,q⟩
 have H:Hid ((prog.info? 103).map (·.size)=some (aA T).length/\p.there (w.heap.size+2) 0 (aA T).toArray.size/\(prog.info? 103).map (·.size)=some (aA T).toArray.size):=by
  have e:(aA T).toArray.size=33:=by rw[VC];exact k
  refine⟨by rw[k];exact cV,by rw[e];exact I.out.1.2.2,by rw[e];exact cV⟩
 clear k A q;generalize V 0=s0;generalize V 1=s1;generalize V 2=s2;generalize V 3=s3;generalize V 4=s4;generalize V 5=s5;generalize V 6=s6;generalize V 7=s7;generalize V 9=s9;go_wp2_with (first|(refine U6 rfl 103 _ rfl g 0 ?_ (aA T) d ?_ ?_ ?_ ?_ ?_;rfl;exact I.out.2.2.2.1;exact U.out.1;exact U.out.2;exact H.out.1;rw[B.out])|(refine U2 rfl 103 _ _ rfl (w.heap.size+2) 0 (aA T).toArray ?_ ?_ ?_ ?_ ?_ ?_;rfl;exact B.out.symm;exact H.out.2.1;exact H.out.2.2;exact bW T;rw[show(aA T).toArray.toList=aA T from rfl,f.out])|fail)
 refine UE (aG 4 103 rfl D.out.1 rfl uCP H.out.1) rfl ?_;exact⟨_,rfl,D.out.2,rfl⟩
end
section
open Go.Shelf
attribute [local go_sem] Zd
end
section
open Go.Shelf
attribute [local go_sem] Zd
end
section
variable {P:Nat}[NeZero P]{N:Nat}
def zz(n:Nat):List Ut:=(VB n (Value.int .u8 0))
def o33:Bs:=UJ 33 0
theorem Mw:(.agg z33.toArray:Ut)=pvl o33:=by
 unfold pvl z33 o33 aA;rw[Y3,List.map_replicate];rfl
theorem Sm.mono{B k:Nat}{W:Ur}{v:Ut}{l:List (Nat × Bs)}(h:Sm B W v l)(i:k<=B):Sm k W v l:=by
 obtain⟨g,c,f,e,b,d⟩:=h;exact⟨g,c,f,e,UC i b,d⟩
section
variable (w:Ur) (k6 k8 n:Nat) (Y A T:Bs)
def Rb:Nat->Ut->Ur->Prop
 | 0,v,_=>v=pvl Y
 | 1,v,W=>Sm w.heap.size W v [(1,Y)]
 | 2,v,_=>v=pvl A
 | 3,v,_=>v=nv n
 | 4,v,W=>Sm w.heap.size W v [(n,A)]
 | 5,v,W=>Sm w.heap.size W v [(1,Y),(n,A)]
 | 6,v,_=>v=pvl T
 | 7,v,W=>El 33 W v T
 | 8,v,W=>El 33 W v T
 | 9,v,_=>v=iZ 0
 | _,_,_=>True
def Gb:Gw:=⟨Rb w n Y A T,λW=>Kp w W [(k8,wn n),(k6,aA Y)],λi v W W' k h=>by
 match i,h with
 | 0,h=>exact h
 | 1,h=>exact Sm.grow h k
 | 2,h=>exact h
 | 3,h=>exact h
 | 4,h=>exact Sm.grow h k
 | 5,h=>exact Sm.grow h k
 | 6,h=>exact h
 | 7,h=>exact El.below h k (Uw _)
 | 8,h=>exact El.below h k (Uw _)
 | 9,h=>exact h
 | _+10,_=>trivial,λW W' k h=>h.grow k⟩
end
theorem CM(x:UInt8)(r:List UInt8):beV (x :: r)=x.toNat*256^r.length+beV r:=by
 have h:=jP [x] r;rw[show [x]++r=x :: r from rfl]at h;rw[h];simp[beV]
end
section
theorem FN:∀(l r:List UInt8),l.length=r.length->beV l=beV r->l=r
 | [],[],_,_=>rfl
 | x :: l,y :: r,hl,h=>by
  have k:l.length=r.length:=Nat.succ.inj hl;rw[CM,CM,k]at h;have b1:=Eg l;have e:=Eg r;rw[k]at b1;have b:0<256^r.length:=XI dC;have c:(x.toNat*256^r.length+beV l)/256^r.length=x.toNat:=by
   rw[Vv,yBl b,Xe b1,XB]
  have d:(y.toNat*256^r.length+beV r)/256^r.length=y.toNat:=by
   rw[Vv,yBl b,Xe e,XB]
  have e3:x.toNat=y.toNat:=by rw[<-c,<-d,h]
  have f:=UInt8.toNat_inj.1 e3;subst f;rw[FN l r k oM]
theorem SD{b:Bs}(c:b.size=32){n:Nat}(k:n<top)(h:beV b.toList=n):bx n=b:=by
 have:=FN (bx n).toList b.toList (by rw[UK,UK,eE,c]) (by rw[Bm k,h]);exact Array.toList_inj.1 this
variable {P:Nat}[NeZero P]
end
section
variable {P:Nat}[NeZero P]{N:Nat}
theorem wH(O:Ord N)(B:Nat)(s t:Ut)(l m:List (Nat × Bs))(p:0<l.length)(P:l.length<=500)(M:m.length<=500)(D:∀x∈l,x.2.size=33)(g:∀x∈m,x.2.size=33)(C:∀x∈m,x.1<N)(w:Ur)(R:B<=w.heap.size)(H:Sm B w s l)(G:Sm B w t m):
 UH prog 194 #[s,t] w (rZ w λe w'=>Sm w.heap.size w' e (l++m.map (tmT N (sMi N 0 1)))):=by
 have a:1<N:=by have:2<=N:=UC O.n2 (Nat.mod_le _ _);omega
 have k:=Hid.mk' (IU O a);have b:sMi N 0 1<N:=V5 _ O.pos;generalize sMi N 0 1=o at k b⊢;have E:Hid (∀W,kZ w W->UH prog 164 #[t,nv o] W (rZ W λe w'=>Sm W.heap.size w' e (m.map (tmT N o)))):=λW A=>by
  have d:∀x∈m.map (·.2),x.size=33:=λx hx=>by obtain⟨y,c,rfl⟩:=Vn.1 hx;exact g y c
  exact eG O b B t m oM d C W (G.grow A)
 have Q:Hid (∀W v,kZ w W->Sm w.heap.size W v (m.map (tmT N o))->UH prog 65 #[s,v] W (rZ W λe w'=>Sm W.heap.size w' e (l++m.map (tmT N o)))):=λW v A hv=>by
  refine rT B s v l (m.map (tmT N o)) p P (by rw[UQ];exact M) D (λx hx=>?_) W (H.grow A) (hv.mono R);obtain⟨y,c,rfl⟩:=Vn.1 hx;exact g y c
 obtain⟨X,cs,K,-⟩:=id H;obtain⟨Y,ct,U,-⟩:=id G;subst K;subst U;obtain⟨v1,d⟩:=hE (nv 1);obtain⟨Z,i⟩:=hE (nv o);rw[d.out,i.out]at k;rw[i.out]at E;have I:=Hid.mk' (IX);rw[d.out]at I;go_enter func194,ntmps194;go_wp2_with fail
 refine(I w).mono ?_;rintro e V ⟨L,rfl,f,rfl⟩;go_wp2_with fail
 refine(k V).mono ?_;rintro e T ⟨L,rfl,n,rfl⟩;have j:=mk1 (f.trans (n.mono f.size));go_wp2_with fail
 refine(E T j.out).mono ?_;rintro e S ⟨J,rfl,z,r⟩;have c:=mk2 (j.trans (z.mono j.size)) (r.mono j.size);go_wp2_with fail
 refine(Q S J c.1 c.2).mono ?_;rintro e w4 ⟨v4,rfl,q,u⟩;have F:=mk2 (c.1.trans (q.mono c.1.size)) (u.mono c.1.size);go_wp2;go_ret;exact⟨_,rfl,F.1,F.2⟩
def encV(v:Ut):Ut:=v
omit [NeZero P] in
theorem KO:(wr (none:EC.Pt P))=o33:=by
 show He=o33;decide +kernel
theorem Kg(q:Option Wu)(c:Nat)(w:Ur):UH prog 120 #[.func (.func 53) #[] #[],.slice q 0 c] w (rZ w λe w'=>∃K,e=.tuple #[sZ K 0 0,.bool true]):=by
 obtain⟨C0,g,d⟩:=Ru 0 dC;have k:(Instr.makeSlice 200 (iZ 0) (iZ 0)).run prog w=.ok (sZ w.heap.size 0 0) (w.alloc (.cells C0.toArray 103)):=d w;obtain⟨f,b⟩:∃f,Hid (w.alloc (.cells C0.toArray 103)=f):=⟨_,rfl⟩
 rw[b.out]at k;have j:Hid (kZ w f):=by rw[<-b.out];exact aC _ _
 clear d g b;go_enter func120,ntmps120;go_wp2;clear k;go_loopg [16] 0 (λm s16 W=>s16=iZ 0/\Hid (kZ w W))
 case atStart=>exact⟨rfl,j.out⟩
 case round =>
  obtain⟨rfl,i⟩:=hrel;go_wp2
  go_ret2
  exact⟨_,rfl,i.out,_,rfl⟩
end
section
open SPA
variable {P:Nat}[NeZero P]{N:Nat}[NeZero N]
theorem S4(g j:Nat):(⟨g,0,none⟩:Wu).add j=⟨g,j,none⟩:=by
 simp[Addr.add];exact λh=>h.symm
theorem zU{W:Ur}{k n g c:Nat}{e:U8}{xs:List Ut}(h:W.ownsRow k e 1 (sZ g n c) n xs){j:Nat}{u:Ut}(b:xs[j]? = some u):W.cell? ⟨g,j,none⟩=some u:=by
 have:=h.cells (g:=g) rfl j u b;rw[S4]at this;exact this
theorem wW{W:Ur}{k n:Nat}{e:U8}{v:Ut}{xs:List Ut}(h:W.ownsRow k e 1 v n xs)(b:0<n):∃g c,v=sZ g n c:=by
 rcases h with⟨-,⟨-,d⟩|⟨g,cap,cur,rfl,-⟩⟩
 ·omega
 ·exact⟨g,cap,rfl⟩
def PtL(Q:Nat->Prop)(W:Ur)(K t:Nat)(B:Nat->Bs):Prop:=∀j,j<t->Q K/\K<W.heap.size/\W.rangeAt K (33*j) (aA (B j))
theorem PtL.keep{Q:Nat->Prop}{W W':Ur}{K t:Nat}{B:Nat->Bs}(h:PtL Q W K t B)(c:Kq Q W W'):PtL Q W' K t B:=λj f=>by
 obtain⟨b,k,e⟩:=h j f;refine⟨b,Ux k c.size,λi u d=>?_⟩;rw[UW (a:=⟨K,33*j+i,none⟩) (c.block K b k)];exact e i u d
theorem PtL.mono2{Q Q':Nat->Prop}{W:Ur}{K t:Nat}{B:Nat->Bs}(h:PtL Q W K t B)(c:∀g,g<W.heap.size->Q g->Q' g):PtL Q' W K t B:=λj e=>by
 obtain⟨d,k,b⟩:=h j e;exact⟨c K k d,k,b⟩
theorem TlL.shape{Q:Nat->Prop}{k t:Nat}{W:Ur}{v:Ut}{B:Nat->Bs}(h:TlL Q k t W v B):∃q c,v=.slice q t c:=by
 obtain⟨xs,⟨-,⟨rfl,b⟩|⟨g,cap,cur,rfl,-⟩⟩,-⟩:=h.ex
 ·exact⟨none,0,by rw[b]⟩
 ·exact⟨_,_,rfl⟩
theorem TlL.below{Q:Nat->Prop}{k t:Nat}{W W':Ur}{v:Ut}{B:Nat->Bs}(h:TlL Q k t W v B)(b:kZ W W'):TlL Q k t W' v B:=h.keep (Kq.of_below b) λg c=>b.block g (h.lt c).2
theorem Ke(C:Fld P){Q:Nat->Prop}{b t:Nat}{W:Ur}{v:Ut}{B:Nat->Bs}(n:t<=512)(h:TlL Q b t W v B)(o:∀j,j<t->∃p,rd P (B j)=some p):UH prog 120 #[.func (.func 53) #[] #[],v] W (rZ W λe w'=>∃K,e=.tuple #[sZ K t t,.bool true]/\PtL (W.heap.size<=·) w' K t B):=by
 rcases Nat.eq_zero_or_pos t with d|d
 ·obtain⟨q,c,rfl⟩:=h.shape;subst d;refine(Kg q c W).mono ?_;rintro e w' ⟨v,rfl,f,K,rfl⟩;exact⟨_,rfl,f,K,rfl,λj k=>absurd k (Nat.not_lt_zero _)⟩
 ·obtain⟨xs,l,u⟩:=h.ex;obtain⟨g,c,rfl⟩:=wW l d;refine(Kh C g t c n B W (h.lt (g:=g) rfl).2 λj k=>?_).mono ?_
  ·obtain⟨x,i,m⟩:=u j k;exact⟨x,zU l i,m.arg⟩
  ·rintro e w' ⟨v,rfl,f,h⟩;rcases h with⟨-,K,rfl,w,r,s⟩|⟨⟨j,k,i⟩,-⟩
   ·exact⟨_,rfl,f,K,rfl,λj k=>⟨w,r,s j k⟩⟩
   ·obtain⟨p,m⟩:=o j k;rw[m]at i;cases i
theorem ElQ.argS{Q:Nat->Prop}{W:Ur}{x:Ut}{b:Bs}(h:ElQ Q 32 W x b):Arg W x b:=by
 obtain⟨k,c,rfl,e,d,-,g,f⟩:=h;exact⟨_,32,c,rfl,d,λ_=>⟨k,0,rfl,e,g,f⟩⟩
def two{α:Type}(x y:α)(j:Nat):α:=if j=0 then x else y
theorem Uc(k d:Nat)(n c b e:Nat)(w:Ur):(Vy 24 2 #[(0,sZ k n c),(1,sZ d b e)]).run prog w=.ok (sZ w.heap.size 2 2) (w.alloc (.cells #[sZ k n c,sZ d b e] 23)):=kR
theorem Ub{Q Q':Nat->Prop}{W:Ur}{x y:Ut}{b d:Bs}(h:ElQ Q 32 W x b)(e:ElQ Q' 32 W y d)(w:Ur):(Vy 24 2 #[(0,x),(1,y)]).run prog w=.ok (sZ w.heap.size 2 2) (w.alloc (.cells #[x,y] 23)):=by
 obtain⟨k,c,rfl,-⟩:=h;obtain⟨f,g,rfl,-⟩:=e;exact Uc k f 32 c 32 g w
theorem Ka{Q Q':Nat->Prop}{W:Ur}{x y:Ut}{b d:Bs}(h:ElQ Q 32 W x b)(e:ElQ Q' 32 W y d):Args (W.alloc (.cells #[x,y] 23)) (some (aZ W.heap.size)) 2 (two b d):=λ_=>by
 have c:=aC W (.cells #[x,y] 23);have k:=aE W [x,y] 23;refine⟨_,rfl,k.1,λj f=>?_⟩;match j,f with
 | 0,_=>exact⟨x,k.2.1 0 _ rfl,h.argS.below c⟩
 | 1,_=>exact⟨y,k.2.1 1 _ rfl,e.argS.below c⟩
 | j+2,h=>omega
theorem Uh{j o g l:Nat->Prop}{b1 q t:Nat}{W:Ur}{f e b d:Ut}{p Rb:Nat->Bs}{A B:Bs}(i:TlL j b1 t W f p)(hR:TlL o q t W e Rb)(n:ElQ g 32 W b A)(m:ElQ l 32 W d B)(w:Ur):(Ve 26 (.agg #[f,e,b,d])).run prog w=.ok (jZ w.heap.size) (w.alloc (.cells #[f,e,b,d] 26)):=by
 obtain⟨s,c1,rfl⟩:=i.shape;obtain⟨r,c2,rfl⟩:=hR.shape;obtain⟨k,c,rfl,-⟩:=n;obtain⟨u,v,rfl,-⟩:=m;kernel_rfl
theorem uIr:(prog.underlying 202).map (·.isRow)=some true:=kR
theorem iIr:(prog.info? 202).map (·.size)=some 10:=kR
def inL(c k t a b:Nat):List Ut:=sZ c t t :: sZ k t t :: (wn a++wn b)
def inZ:List Ut:=[.slice none 0 0,.slice none 0 0,uZ 0,uZ 0,uZ 0,uZ 0,uZ 0,uZ 0,uZ 0,uZ 0]
theorem E9(c k t a b:Nat):(inL c k t a b).toArray.all (·.oneCell')=true:=kR
omit [NeZero N] in
theorem LU(C:Fld P)(O:Ord N){h0 t:Nat}(ht:t<=6){Lb Rb:Nat->Bs}{A B:Bs}{a b:Nat}{vL vR z D:Ut}(w:Ur)(hL:TlL (λ_=>True) h0 t w vL Lb)(hR:TlL (λ_=>True) h0 t w vR Rb)(hA:ElQ (λ_=>True) 32 w z A)(hB:ElQ (λ_=>True) 32 w D B)(hl:∀j,j<t->∃p,rd P (Lb j)=some p)(hr:∀j,j<t->∃p,rd P (Rb j)=some p)(ha:rq N A=some a)(hb:rq N B=some b):
 UH prog 119 #[.agg #[vL,vR,z,D],iZ t] w (rZ w λe w'=>∃q r,e=.tuple #[.agg (inL q r t a b).toArray,.bool true]/\PtL (w.heap.size<=·) w' q t Lb/\PtL (w.heap.size<=·) w' r t Rb):=by
 obtain⟨k,hk⟩:∃k,Hid (w.heap.size=k):=⟨_,rfl⟩
 obtain⟨L,T⟩:∃L,Hid (w.alloc (.cells #[vL,vR,z,D] 26)=L):=⟨_,rfl⟩
 obtain⟨Q,h7⟩:∃Q,Hid (L.alloc (.cells inZ.toArray 202)=Q):=⟨_,rfl⟩
 obtain⟨vI,hvI⟩:∃v,Hid (U3 #[vL,vR,z,D]=v):=⟨_,rfl⟩
 have B1:Hid ((Ve 26 vI).run prog w=.ok (jZ k) L):=by rw[<-hvI.out,<-T.out,<-hk.out];exact Uh hL hR hA hB w
 obtain⟨q1,x1,rfl⟩:=hL.shape;obtain⟨q2,x2,rfl⟩:=hR.shape;have z1:L.heap.size=k+1:=by rw[<-T.out,UB,hk.out]
 have k0:=Hid.mk' z1;have b1:kZ w L:=by rw[<-T.out];exact aC _ _
 have b2:kZ L Q:=by rw[<-h7.out];exact aC _ _
 have r1:Row L k [.slice q1 t x1,.slice q2 t x2,z,D]:=by rw[<-T.out,<-hk.out];exact aE w _ _
 have r2:Row Q (k+1) inZ:=by rw[<-h7.out,<-z1];exact aE L _ _
 have he:=b1.trans (b2.mono b1.size);have h9:=Hid.mk' (λ(W:Ur) (S:kZ w W)=>Ke C (v:=.slice q1 t x1) oM (hL.below S) hl);have hm:=Hid.mk' (λ(W:Ur) (S:kZ w W)=>Ke C (v:=.slice q2 t x2) oM (hR.below S) hr);have H:=Hid.mk' (V1 (λ(W:Ur) (S:kZ w W)=>hA.keep (Kq.of_below S)) (λ(W:Ur) (S:kZ w W)=>hB.keep (Kq.of_below S)));have hu:=Hid.mk' (λ(W:Ur) (S:kZ w W)=>Kf O 2 2 dC (some (aZ W.heap.size)) (two A B) (two a b) (W.alloc (.cells #[z,D] 23)) (Ka (H.1 W S) (H.2 W S)) (λj hj=>by
  match j,hj with
  | 0,_=>exact ha
  | 1,_=>exact hb
  | j+2,h=>omega))
 have K2:Hid (Row Q (k+1) inZ/\kZ w Q/\Row Q k [.slice q1 t x1,.slice q2 t x2,z,D]):=⟨r2,he,r1.below b2⟩
 have c0:Q.cell? ⟨k,0,none⟩=some (.slice q1 t x1):=(r1.below b2).2.1 0 _ rfl;have c1:Q.cell? ⟨k,1,none⟩=some (.slice q2 t x2):=(r1.below b2).2.1 1 _ rfl;rw[hvI.out];clear b1 b2 r1 r2 he z1 hL hR hA hB hvI hl hr ha hb;go_enter func119,ntmps119;go_wp2_with (first|(refine aF (u:=vI) (v:=jZ k) (w':=L) rfl 26 (.tmp 0) rfl ?_ ?_ ?_;rfl;exact B1.out)|(refine fB (v:=.pointer (some ⟨k+1,0,none⟩)) (w':=Q) rfl 202 4 rfl rfl ?_ ?_;(rw[<-h7.out,<-k0.out];kernel_rfl))|fail)
 refine(h9 Q K2.2.1).mono ?_;rintro e w3 ⟨uu,rfl,V,q,rfl,hn⟩;have b3:=K2.2.1.trans (V.mono K2.2.1.size);have X:Hid (Row w3 (k+1) inZ/\kZ w w3/\Row w3 k [.slice q1 t x1,.slice q2 t x2,z,D]/\PtL (k+1 < ·) w3 q t Lb):=⟨K2.1.below V,b3,K2.2.2.below V,hn.mono2 λg _ U=>Ux K2.1.1 U⟩
 have k1:w3.cell? ⟨k,1,none⟩=some (.slice q2 t x2):=X.2.2.1.2.1 1 _ rfl;clear V hn b3 K2 c0 c1 h9;go_wp2_with fail
 refine(hm w3 X.2.1).mono ?_;rintro e s ⟨uu,rfl,J,r,rfl,hi⟩;have b4:=X.2.1.trans (J.mono X.2.1.size);have K:Hid (Row s (k+1) inZ/\kZ w s/\Row s k [.slice q1 t x1,.slice q2 t x2,z,D]/\PtL (k+1 < ·) s q t Lb/\PtL (k+1 < ·) s r t Rb):=⟨X.1.below J,b4,X.2.2.1.below J,X.2.2.2.keep (Kq.of_below J),hi.mono2 λg _ U=>Ux X.1.1 U⟩
 have hy:s.cell? ⟨k,2,none⟩=some z:=K.2.2.1.2.1 2 _ rfl;have hz:s.cell? ⟨k,3,none⟩=some D:=K.2.2.1.2.1 3 _ rfl;obtain⟨w5,Z⟩:∃W,Hid (s.alloc (.cells #[z,D] 23)=W):=⟨_,rfl⟩
 obtain⟨k5,hq⟩:∃n,Hid (s.heap.size=n):=⟨_,rfl⟩
 have HS:Hid ((Vy 24 2 #[(0,z),(1,D)]).run prog s=.ok (sZ k5 2 2) w5):=by rw[<-Z.out,<-hq.out];exact Ub (H.1 s K.2.1) (H.2 s K.2.1) s
 have h5:=hu.out s K.2.1;rw[Z.out,hq.out]at h5;have hs:=Hid.mk' h5;have F:kZ s w5:=by rw[<-Z.out];exact aC _ _
 have b5:=K.2.1.trans (F.mono K.2.1.size);have K5:Hid (Row w5 (k+1) inZ/\kZ w w5/\PtL (k+1 < ·) w5 q t Lb/\PtL (k+1 < ·) w5 r t Rb):=⟨K.1.below F,b5,K.2.2.2.1.keep (Kq.of_below F),K.2.2.2.2.keep (Kq.of_below F)⟩
 clear J hi b4 X k1 hm h5 F b5 hu H;go_wp2_with (first|(refine jC (v:=sZ k5 2 2) (w':=w5) rfl 24 2 _ rfl #[(0,z),(1,D)] ?_ ?_ ?_;kernel_rfl;exact HS.out)|fail)
 refine hs.mono ?_;rintro e f ⟨uu,rfl,I,m,rfl,hp⟩;have K6:Hid (Row f (k+1) inZ/\kZ w f/\PtL (k+1 < ·) f q t Lb/\PtL (k+1 < ·) f r t Rb/\SLq (k+1 < ·) f (sZ m 2 2) 2 (two a b)):=⟨K5.1.below I,K5.2.1.trans (I.mono K5.2.1.size),K5.2.2.1.keep (Kq.of_below I),K5.2.2.2.keep (Kq.of_below I),hp.mono λg U=>Ux K5.1.1 U⟩
 have hE:f.rangeAt m 0 (wn a)/\f.rangeAt m 4 (wn b)/\k+1≠m:=by
  obtain⟨g,o,c,e,-,E,-,y⟩:=K6.2.2.2.2;injection e with e1
  injection e1 with e1
  injection e1 with e2 e3
  subst e2 e3;exact⟨y 0 dC,y 1 dC,Nat.ne_of_lt E⟩
 have G:=Hid.mk' hE;clear I hp K5 K hs HS hy hz Z hE;go_wp2_with fail
 obtain⟨dS,M,R⟩:=Uy.1 rSc;have E:f.drew.rangeAt m 0 (wn a)/\f.drew.rangeAt m 4 (wn b):=⟨G.1,G.2.1⟩
 refine anyS.begin (λ_ W=>W.rangeAt m 0 (wn a)/\W.rangeAt m 4 (wn b)) kR ?_;have Y:∀(p:Nat),Bef (λ_ W=>YS W m 0 (wn a)/\YS W m 4 (wn b)) p f.drew:=λp=>⟨#[],by simp,E⟩
 refine anyS.val (i:=0) (d:=some 57) (x:=sZ q t t) rfl 9 (λ_ _ h=>h) (Y 9) E ?_;simp only[UN,Us,Uu,Uv];refine anyS.val (i:=1) (d:=some 58) (x:=sZ r t t) rfl 9 (λ_ _ h=>h) (Y 9) E ?_;simp only[UN,Us,Uu,Uv];refine anyS.val (i:=2) (d:=some 59) (x:=sZ m 2 2) rfl 9 (λ_ _ h=>h) (Y 9) E ?_;simp only[UN,Us,Uu,Uv];refine anyS.val (i:=3) (d:=some 60) (x:=jZ m) rfl 9 (λ_ _ h=>h) (Y 9) E ?_;simp only[UN,Us,Uu,Uv];refine anyS.row (i:=4) (d:=some 61) (cs:=wn a) rfl 9 (λ_ _ h=>h) 49 60 m 0 dS rfl M R nSc (λW ⟨l,e,h⟩=>h.1) (Y 9) E ?_;simp only[UN,Us,Uu,Uv];refine anyS.val (i:=5) (d:=some 62) (x:=sZ m 2 2) rfl 9 (λ_ _ h=>h) (Y 9) E ?_;simp only[UN,Us,Uu,Uv];refine anyS.val (i:=6) (d:=some 63) (x:=oZ m 4) rfl 9 (λ_ _ h=>h) (Y 9) E ?_;simp only[UN,Us,Uu,Uv];refine anyS.row (i:=7) (d:=some 64) (cs:=wn b) rfl 9 (λ_ _ h=>h) 49 63 m 4 dS rfl M R nSc (λW ⟨l,e,h⟩=>h.2) (Y 9) E ?_;simp only[UN,Us,Uu,Uv];clear Y;refine anyS.nxt (i:=8) (d:=some 65) (x:=.agg (inL q r t a b).toArray) rfl E ?_;simp only[UN,Us,Uu,Uv];have hc:f.drew.there (k+1) 0 10:=K6.1.2.2;have y:∀g,g≠k+1->(f.drew.setCells (k+1) 0 (inL q r t a b)).heap[g]? = f.drew.heap[g]?:=λg h=>aH (k+1) _ 0 f.drew g h
 have S7:(f.drew.setCells (k+1) 0 (inL q r t a b)).rangeAt m 0 (wn a)/\(f.drew.setCells (k+1) 0 (inL q r t a b)).rangeAt m 4 (wn b):=⟨λj u hj=>by rw[UW (a:=⟨m,0+j,none⟩) (y m (YB G.2.2))];exact E.1 j u hj,λj u hj=>by rw[UW (a:=⟨m,4+j,none⟩) (y m (YB G.2.2))];exact E.2 j u hj⟩
 have r6:Row f.drew (k+1) inZ:=K6.1;have r7:Row (f.drew.setCells (k+1) 0 (inL q r t a b)) (k+1) (inL q r t a b):=r6.put rfl;have b7:kZ w (f.drew.setCells (k+1) 0 (inL q r t a b)):=RG.below_setCells (by rw[hk.out];exact Nat.le_succ _) _ _ _ K6.2.1.drew;have h3:Kq (k+1 < ·) f (f.drew.setCells (k+1) 0 (inL q r t a b)):=⟨by rw[setCells_size];exact Uw _,λg U _=>y g (V8 U)⟩
 have h8:=(K6.2.2.1.keep h3).mono2 (Q':=(w.heap.size<=·)) λg _ U=>by rw[hk.out];omega
 have h6:=(K6.2.2.2.1.keep h3).mono2 (Q':=(w.heap.size<=·)) λg _ U=>by rw[hk.out];omega
 refine anyS.sta (i:=9) (d:=none) rfl 202 (.tmp 4) (.tmp 65) rfl (k+1) 0 (inL q r t a b).toArray (E9 q r t a b) hc iIr S7 ?_;simp only[UN,Us,Uu,Uv];refine anyS.nxt (i:=10) (d:=some 5) (x:=.bool true) rfl S7 ?_;simp only[UN,Us,Uu,Uv];refine anyS.fin kR ?_ _;intro WZ hw;have h1:WZ=f.drew.setCells (k+1) 0 (inL q r t a b):=hw;rw[<-h1]at r7 b7 h8 h6;have KZ:=Hid.mk' (V1 r7 (V1 b7 (V1 h8 h6)));clear r6 r7 b7 h3 h8 h6 S7 E y hc hw h1 K6 G M R;go_wp2_with fail
 refine UE (qD 4 5 202 rfl KZ.1 rfl rfl uIr iIr) rfl ?_;exact⟨_,rfl,KZ.2.1,q,r,rfl,KZ.2.2.1,KZ.2.2.2⟩
end
section
open SPA
section
variable {P:VD}{ops:Array Vk}{Q:Yo->Act->Ur->Prop}{S:Array Bool->Ur->Prop}
theorem TE(a:Act){d e:WC}(h:d≠e)(v u:Ut):(a.put (some d) v).put (some e) u=(a.put (some e) u).put (some d) v:=by
 unfold UN;dsimp only;rw[Z6 _ _ h]
theorem anyS.calal{i j c:Nat}{o l:Vk}{di dj:WC}{f:Xq}{args:Array Ut}{obj:Obj}{k:Array Bool}{a:Act}{w:Ur}{J M:Ut->Ur->Prop}{F:Ut->Nat->Ur->Prop}(p:ops[i]? = some o)(n:ops[j]? = some l)
 (R:UH P f args w (Ret J)) (C:UH P f args (w.alloc obj) (Ret M)) (B:S (k.setIfInBounds j true) (w.alloc obj))
 (U:∀v W',J v W'->S (k.setIfInBounds i true) W'/\S ((k.setIfInBounds i true).setIfInBounds j true) (W'.alloc obj)/\F v W'.heap.size (W'.alloc obj)) (T:∀v W',M v W'->S ((k.setIfInBounds i true).setIfInBounds j true) W'/\F v w.heap.size W')
 (r:∀(b:Act) (W:Ur),(U5 b.eval l).run P W=.ok (.value (jZ W.heap.size)) (W.alloc obj))
 (h:∀v b W',F v b W'->anyS P ops Q S c ((k.setIfInBounds i true).setIfInBounds j true) ((a.put (some di) v).put (some dj) (jZ b)) W')
 (hx:∀W,(U5 a.eval o).run P W=.ok (.enter f args) W:=by intro _;kernel_rfl) (D:∀(b:Nat) (W:Ur),(U5 (a.put (some dj) (jZ b)).eval o).run P W=.ok (.enter f args) W:=by intro _ _;kernel_rfl)
 (z:i≠j:=by decide) (E:di≠dj:=by decide) (N:U7 .any ops k=[i,j]:=by kernel_rfl) (d:U7 .any ops (k.setIfInBounds i true)=[j]:=by kernel_rfl) (G:U7 .any ops (k.setIfInBounds j true)=[i]:=by kernel_rfl)
 (t:o.guard=none:=by rfl) (s:l.guard=none:=by rfl) (m:o.dst=some di:=by kernel_rfl) (u:l.dst=some dj:=by kernel_rfl):anyS P ops Q S (c+2) k a w:=by
 refine⟨λL=>(by rw[N]at L;cases L),λq I=>?_⟩;rw[N]at I;have y:q=i\/q=j:=by simpa using I
 rcases y with rfl|rfl
 ·refine wpOp_step p λK x=>?_
  rw[yCj (bI t _)];unfold VT;rw[hx,WY];refine R.mono ?_;rintro e W' ⟨v,rfl,hR⟩;obtain⟨s1,s2,H⟩:=U v W' hR;refine x _ _ ⟨s1,?_⟩;rw[m];refine anyS.step n d λO g=>?_
  rw[yCj (bI s _)];unfold VT;rw[r];show O (UN _ l.dst _) _;rw[u];exact g.out _ _ s2 (h v _ _ H)
 ·refine wpOp_step n λK x=>?_
  rw[yCj (bI s _)];unfold VT;rw[r];show K (a.put l.dst _) _;rw[u];refine x _ _ ⟨B,?_⟩;refine anyS.step p G λO g=>?_
  rw[yCj (bI t _)];unfold VT;rw[D,WY];refine C.mono ?_;rintro e W' ⟨v,rfl,hR⟩;obtain⟨s2,H⟩:=T v W' hR;have d:=h v _ _ H;rw[Z6 _ _ z]at s2 d;rw[TE a E]at d;rw[m];exact g.out _ _ s2 d
end
variable {P:Nat}[NeZero P]{N:Nat}[NeZero N]
theorem Hv(C:Fld P)(k:∀r:EC.Pt P,On r->mul N r=none)(g:IsP N)(t:Nat)(L T:Nat->OnP P)(v:Md.Vs Bs (OnP P))(i m:Nat)(j:m=2^(t-(i+1)))(s:Bs)(c:Fin N)(f:chF N ((aD C k).vst (chF N) ivF t L T v i).s (L i) (T i)=(s,c)):
 (aD C k).vst (chF N) ivF t L T v (i+1)=⟨s,(aD C k).ad ((aD C k).ad ((aD C k).vst (chF N) ivF t L T v i).p ((aD C k).ac (c*c) (L i))) ((aD C k).ac (ivF (c*c)) (T i)),(aD C k).fP (ivF c) c m ((aD C k).vst (chF N) ivF t L T v i).g,(aD C k).fP c (ivF c) m ((aD C k).vst (chF N) ivF t L T v i).h⟩:=by
 have b:=P4 g ((aD C k).vst (chF N) ivF t L T v i).s (L i) (T i);rw[f]at b;have d:c.val≠0:=λe=>b (by
  have:c=0:=Fin.ext (e.trans (YM N).symm);show(c*c).val=0;rw[this];show(0%N*(0%N))%N=0;rw[YM,Nat.zero_mul,YM])
 rw[Md.Ib,RN g c d b,j];show(aD C k).Er (chF N) ivF (2^(t-(i+1))) (L i) (T i) ((aD C k).vst (chF N) ivF t L T v i)=_;unfold Md.Er;rw[f]
end
section
open SPA
variable {P:Nat}[NeZero P]{N:Nat}[NeZero N]
def QR(r k g:Nat):Prop:=g≠r/\(g<k\/k+3<=g)
structure Lk(w W:Ur)(r k kl kr t a b n:Nat)(v sv:Ut)(Lb Rb:Nat->Bs)(L:Bs)(G H:Nat->List (Nat × Bs))(U l:List (Nat × Bs)):Prop where
 on:SP.Only r 0 32 w W
 rk:r<k
 wk:w.heap.size=k
 r0:Row W k (inL kl kr t a b)
 r1:Row W (k+1) [jZ r]
 r2:∃e:Array Ut,v=.agg e/\e.size=3/\e.all (·.oneCell')=true/\Row W (k+2) e.toList
 pl:PtL (QR r k) W kl t Lb
 pr:PtL (QR r k) W kr t Rb
 gr:GRq (QR r k) W v n G H U
 sm:SmQ (QR r k) W sv l
 lg:Holds encB W r 0 L
 ls:L.size=32
section
variable {w W W':Ur}{r k kl kr t a b n:Nat}{v sv:Ut}{Lb Rb:Nat->Bs}{L:Bs}{G H:Nat->List (Nat × Bs)}{U l:List (Nat × Bs)}
theorem Lk.any{d:Bs}(h:Lk w W r k kl kr t a b n v sv Lb Rb L G H U l)(j:SP.Only r 0 32 w W')(kq:Kq (QR r k) W W')(f:∀g,k<=g->g<k+3->W'.heap[g]? = W.heap[g]?)(o:Holds encB W' r 0 d)(c:d.size=32):Lk w W' r k kl kr t a b n v sv Lb Rb d G H U l:=by
 obtain⟨e,i,m,e3,p⟩:=h.r2;exact⟨j,h.rk,h.wk,aV h.r0 kq.size (f k oM oM),aV h.r1 kq.size (f _ oM oM),⟨e,i,m,e3,aV p kq.size (f _ oM oM)⟩,h.pl.keep kq,h.pr.keep kq,h.gr.keep kq,h.sm.keep kq,o,c⟩
theorem Lk.big(h:Lk w W r k kl kr t a b n v sv Lb Rb L G H U l):k+3<=W.heap.size:=by
 obtain⟨e,-,-,-,c⟩:=h.r2;exact c.1
theorem Lk.grow(h:Lk w W r k kl kr t a b n v sv Lb Rb L G H U l)(c:kZ W W'):Lk w W' r k kl kr t a b n v sv Lb Rb L G H U l:=by
 have d:=Holds.lt h.lg (by rw[h.ls];decide);exact h.any (h.on.trans (SP.Only.of_below c rfl d)) (Kq.of_below c) (λg f e=>c.block g (by have:=h.big;omega)) (Holds.below h.lg c d) h.ls
theorem Lk.drew(h:Lk w W r k kl kr t a b n v sv Lb Rb L G H U l):Lk w W.drew r k kl kr t a b n v sv Lb Rb L G H U l:=h.grow ⟨rfl,rfl,rfl,Uw _,λ_ _=>rfl⟩
theorem Lk.say{d:Bs}(h:Lk w W r k kl kr t a b n v sv Lb Rb L G H U l)(c:SP.Only r 0 32 W W')(j:Holds encB W' r 0 d)(f:d.size=32):Lk w W' r k kl kr t a b n v sv Lb Rb d G H U l:=by
 have e:=h.rk;exact h.any (h.on.trans c) (Kq.of_only c λg i=>i.1) (λg o m=>c.block g (by have:=h.big;omega) oM) j f
theorem Lk.qn(h:Lk w W r k kl kr t a b n v sv Lb Rb L G H U l):∀g,W.heap.size<=g->QR r k g:=λg c=>⟨by have:=h.rk;have:=h.big;omega,UX (by have:=h.big;omega)⟩
theorem Lk.hide{c:Ut}{l':List (Nat × Bs)}(h:Lk w W r k kl kr t a b n v sv Lb Rb L G H U l)(d:SmQ (QR r k) W c l'):Lk w W r k kl kr t a b n v c Lb Rb L G H U l':=⟨h.on,h.rk,h.wk,h.r0,h.r1,h.r2,h.pl,h.pr,h.gr,d,h.lg,h.ls⟩
theorem Lk.next{j:Nat}{e:Array Ut}{m i:Nat->List (Nat × Bs)}(h:Lk w W r k kl kr t a b n v sv Lb Rb L G H U l)(u:GRq (QR r k) W (.agg e) j m i U)(f:e.size=3)(s:e.all (·.oneCell')=true):Lk w (W.setCells (k+2) 0 e.toList) r k kl kr t a b j (.agg e) sv Lb Rb L m i U l:=by
 have c:∀g,g≠k+2->(W.setCells (k+2) 0 e.toList).heap[g]? = W.heap[g]?:=λg y=>aH (k+2) _ 0 W g y
 have d:W.heap.size<=(W.setCells (k+2) 0 e.toList).heap.size:=by rw[setCells_size];exact Uw _
 have kq:Kq (QR r k) W (W.setCells (k+2) 0 e.toList):=⟨d,λg q _=>c g (by have:=q.2;omega)⟩
 have o:=h.rk;obtain⟨z,-,x,-,p⟩:=h.r2;exact⟨jF h.on h.wk h.rk oM,h.rk,h.wk,aV h.r0 d (c k oM),aV h.r1 d (c _ oM),⟨e,rfl,f,s,p.put (by rw[UK,UK,f,x])⟩,h.pl.keep kq,h.pr.keep kq,u.keep kq,h.sm.keep kq,jM h.lg (c r oM),h.ls⟩
end
theorem SL(c k t a b:Nat)(w:Ur):(Ve 202 (.agg (inL c k t a b).toArray)).run prog w=.ok (jZ w.heap.size) (w.alloc (.cells (inL c k t a b).toArray 202)):=kR
theorem uPL:(prog.underlying 200).map (·.isRow)=some false:=kR
theorem EB{Q:Nat->Prop}{W:Ur}{g n:Nat}{p:Bs}(k:Row W g (wn n++aA p))(b:Q g):SmQ Q W (sZ g 1 1) [(n,p)]:=by
 have e:aU [(n,p)]=wn n++aA p:=by unfold aU;simp
 refine⟨g,1,rfl,Uw _,b,k.1,?_⟩;rw[e];exact k.2.1
theorem DL{k:VD}{o:Vk}{ev:XG->Ut}{I:Sem Ut}{v:Ut}{w:Ur}(h:I.run k w=.ok v w)(b:U5 ev o=I >>= λv=>pure (Xp v):=by kernel_rfl):(U5 ev o).run k w=.ok (.value v) w:=by
 rw[b,UV,h];rfl
theorem Lk.rd{w W W':Ur}{r k e d t a b n:Nat}{v o:Ut}{j Rb:Nat->Bs}{L:Bs}{G H:Nat->List (Nat × Bs)}{U l:List (Nat × Bs)}(h:Lk w W r k e d t a b n v o j Rb L G H U l)(c:SP.Only r 0 32 W W'){i:Nat}(f:i<t):
 W'.rangeAt (k+1) 0 [jZ r]/\W'.cell? ⟨k,0,none⟩=some (sZ e t t)/\W'.cell? ⟨k,1,none⟩=some (sZ d t t)/\W'.rangeAt e (0+33*i) (aA (j i))/\W'.rangeAt d (0+33*i) (aA (Rb i)):=by
 have m:=h.rk;have kq:Kq (QR r k) W W':=Kq.of_only c λg p=>p.1
 rw[UD];exact⟨(h.r1.only c oM).2.1,(h.r0.only c oM).2.1 0 _ rfl,(h.r0.only c oM).2.1 1 _ rfl,((h.pl.keep kq) i f).2.2,((h.pr.keep kq) i f).2.2⟩
theorem Rr(h:1<N):(-1:Fin N).val=sMi N 0 1:=by
 have k:(1:Fin N).val=1:=by
  show 1%N=1;exact US h
 have b:(-1:Fin N).val=(N-(1:Fin N).val)%N:=Fin.val_neg' _;rw[b,k];unfold sMi;rw[UD]
omit [NeZero N] in
theorem KL(C:Fld P){X:EC.Pt P}(e:On X):wr X=o33↔X=none:=by
 rw[<-KO (P:=P)];refine⟨λh=>?_,λh=>by rw[h]⟩;obtain⟨p,k,d⟩:=zM C e;obtain⟨q,b,c⟩:=zM C (iN (P:=P));rw[h,b]at k;injection k with k
 rw[<-d,<-c,k]
theorem Sj(C:Fld P)(O:Ord N)(k:∀r:EC.Pt P,On r->mul N r=none)(K:IsP N){Q:Nat->Prop}{c:Nat}{G H:Nat->List (Nat × Bs)}{U l:List (Nat × Bs)}{g h:Nat->OnP P}{u p:OnP P}(A:0<c)(I:c<=64)(hG:Gd N 1 c G g)(z:Gd N 1 c H h)(y:Tl N U u)(J:0<U.length)(D:U.length<=16)(q:Tl N l p)(E:l.length<=200)(a b:Fin N):
 ∃l' f Y,Y.size=33/\(Y=o33↔p=(aD C k).ad ((aD C k).ad ((aD C k).ac a (g 0)) ((aD C k).ac b (h 0))) ((aD C k).ac (a*b) u))/\(∀(W:Ur) (v va n:Ut),GRq Q W v 1 G H U->SLq Q W va 1 (λ_=>a.val)->SLq Q W n 1 (λ_=>b.val)->UH prog 158 #[v,va,n] W (rZ W λe w'=>Sm W.heap.size w' e l')) /\
  (∀(W:Ur) (s m:Ut),Sm 0 W s l'->Sm 0 W m l->UH prog 194 #[s,m] W (rZ W λe w'=>Sm W.heap.size w' e f)) /\
  (∀(W:Ur) (v:Ut),Sm 0 W v f->UH prog 67 #[v] W (rZ W λe w'=>e=pvl Y)):=by
 have F:=sN (by decide:0<1) A oM hG z y J D;obtain⟨o,f⟩:=Ji C k hG z y (d:=U.length) rfl (λ_=>a) (λ_=>b);rw[<-kE]at o f;have j:=o.app C k (q.tm C k (-1));rw[Rr K.1]at j;have x:=(aD C k).Oy ((aD C k).hd (λ_=>a) (λ_=>b) g h u 1) p;rw[(aD C k).Jk (λ_=>a) (λ_=>b) g h u]at x j;refine⟨_,_,_,aT _,(KL C (Subtype.property _)).trans ((Subtype.ext_iff (a2:=(aD C k).zo)).symm.trans x),λW v va n w t B=>Ff O 1 c G H U F _ _ (λi _=>a.isLt) (λi _=>b.isLt) v va n W w t B,λW s m w t=>wH O 0 s m _ l (by rw[f];omega) (by rw[f];omega) oM o.ok.sz q.ok.sz q.ok.lt W (Wy _) w t,λW v hv=>?_⟩;exact j.point C O k (by rw[UA,f];omega) (by rw[UA,UQ,f];omega) hv
theorem NQ{a b:Bs}(k:a.size=33)(d:b.size=33)(w:Ur):(binOp .eql 103 (pvl a) (pvl b)).run prog w=.ok (.bool (decide (a=b))) w:=by
 have c:(binOp .eql 103 (pvl a) (pvl b)).run prog w=(Op.equal 103 (pvl a) (pvl b) >>= λb=>pure (Value.bool b)).run prog w:=rfl;rw[c,UV,show(Op.equal 103 (pvl a) (pvl b)).run prog w=.ok (decide (a=b)) w from Sr k d w];rfl
theorem SI(n:Nat)(w:Ur):(Vy 124 1 #[(0,nv n)]).run prog w=.ok (sZ w.heap.size 1 1) (w.alloc (.cells (wn n).toArray 49)):=kR
theorem QL{Q:Nat->Prop}{W:Ur}{g n:Nat}(k:Row W g (wn n))(b:Q g):SLq Q W (sZ g 1 1) 1 (λ_=>n):=⟨g,0,1,rfl,Uw _,b,k.1,λj c=>by
 have:j=0:=oM;subst this;exact k.2.1⟩
theorem LQ(C:Fld P)(O:Ord N)(f:∀r:EC.Pt P,On r->mul N r=none)(hP:IsP N)(t:Nat)(ht:t<=6)(B A:Nat->OnP P)(v0:Md.Vs Bs (OnP P))(u:OnP P)(G0 H0:Nat->List (Nat × Bs))(U l0:List (Nat × Bs))(dh:Gd N (2^t) 1 G0 v0.g)(cq:Gd N (2^t) 1 H0 v0.h)(hU:Tl N U u)(du:0<U.length)(d5:U.length<=16)(kt:Tl N l0 v0.p)(bc:0<l0.length/\l0.length<=150)
 (q Rb:Nat->Bs) (d1:∀j,q j=wP (B j)) (d3:∀j,Rb j=wP (A j)) (r D E:Nat) (a b:Fin N) (n sv:Ut) (w:Ur) (hL:Holds encB w r 0 v0.s) (ba:v0.s.size=32) (H:PtL (·≠r) w D t q) (G:PtL (·≠r) w E t Rb) (hv:GRq (·≠r) w n (2^t) G0 H0 U) (S:SmQ (·≠r) w sv l0) (Bd:Bool) (dm:Bd=true↔(aD C f).KV u a b ((aD C f).vst (chF N) ivF t B A v0 t)) :
 UH prog 123 #[.agg (inL D E t a.val b.val).toArray,lgV r,n,sv] w (Ret λe w'=>SP.Only r 0 32 w w'/\e=.bool Bd):=by
 have hr:=Holds.lt hL (by rw[ba];decide);obtain⟨k,hk⟩:=hE (w.heap.size);obtain⟨e0,d2,dx,df⟩:=hv.ar;subst d2;obtain⟨w1,hw⟩:=hE (w.alloc (.cells (inL D E t a.val b.val).toArray 202));obtain⟨w2,k5⟩:=hE (w1.alloc (.cells #[jZ r] 145));obtain⟨w3,kg⟩:∃w3,Hid (w2.alloc (.cells e0 133)=w3):=⟨_,rfl⟩
 have z1:w1.heap.size=k+1:=by rw[<-hw.out,UB,hk.out]
 have z2:w2.heap.size=k+2:=by rw[<-k5.out,UB,z1]
 have cz:r<k:=by rw[<-hk.out];exact hr
 have K3:Hid (Lk w w3 r k D E t a.val b.val (2^t) (.agg e0) sv q Rb v0.s G0 H0 U l0):=by
  have b1:kZ w w1:=by rw[<-hw.out];exact aC _ _
  have b2:kZ w1 w2:=by rw[<-k5.out];exact aC _ _
  have J:kZ w2 w3:=by rw[<-kg.out];exact aC _ _
  have r1:Row w1 k (inL D E t a.val b.val):=by rw[<-hw.out,<-hk.out];exact aE w _ _
  have r2:Row w2 (k+1) [jZ r]:=by rw[<-k5.out,<-z1];exact aE w1 _ _
  have V:Row w3 (k+2) e0.toList:=by rw[<-kg.out,<-z2];exact aE w2 e0.toList 133
  have o:kZ w w3:=(b1.trans (b2.mono b1.size)).trans (J.mono (UC b1.size b2.size));have n:∀g,g<w.heap.size->g≠r->QR r k g:=λg hg L=>⟨L,U4 (by rw[<-hk.out];exact hg)⟩
  have kq:∀ {Q:Nat->Prop},Kq Q w w3:=Kq.of_below o;have K:SmQ (QR r k) w sv l0:=by
   obtain⟨g,c,h1,h2,R,M,T⟩:=S;exact⟨g,c,h1,h2,n g M R,M,T⟩
  exact⟨SP.Only.of_below o rfl hr,cz,hk.out,(r1.below b2).below J,r2.below J,⟨e0,rfl,dx,df,V⟩,(H.mono2 n).keep kq,(G.mono2 n).keep kq,(hv.mono2 n).keep kq,K.keep kq,Holds.below hL o hr,ba⟩
 obtain⟨vI,hvI⟩:=hE (U3 (inL D E t a.val b.val).toArray);obtain⟨vl,cf⟩:=hE (lgV r);obtain⟨vG,bv⟩:=hE (U3 e0);have B1:Hid ((Ve 202 vI).run prog w=.ok (jZ k) w1):=by rw[<-hvI.out,<-hw.out,<-hk.out];exact SL D E t a.val b.val w
 have B2:Hid ((Ve 145 vl).run prog w1=.ok (.pointer (some ⟨k+1,0,none⟩)) w2):=by rw[<-cf.out,<-k5.out,<-z1];exact Na r w1
 have B3:Hid ((Ve 133 vG).run prog w2=.ok (.pointer (some ⟨k+2,0,none⟩)) w3):=by
  obtain⟨J,a2,H,n⟩:∃a b c,e0=#[a,b,c]:=by
   obtain⟨x1,x2,G,e,-⟩:=hv.ex;injection e with e
   exact⟨x1,x2,G,e⟩
  rw[<-bv.out,<-kg.out,<-z2,n];exact CJ J a2 H w2
 have K4:Hid (∃v G H l,Gd N (2^(t-0)) (2^0) G ((aD C f).vst (chF N) ivF t B A v0 0).g/\Gd N (2^(t-0)) (2^0) H ((aD C f).vst (chF N) ivF t B A v0 0).h/\Tl N l ((aD C f).vst (chF N) ivF t B A v0 0).p/\l.length=l0.length+2*0/\Lk w w3 r k D E t a.val b.val (2^(t-0)) v sv q Rb ((aD C f).vst (chF N) ivF t B A v0 0).s G H U l):=⟨_,G0,H0,l0,dh,cq,kt,rfl,K3.out⟩
 have R:Hid ((∀j,q j=wP (B j))/\∀j,Rb j=wP (A j)):=⟨d1,d3⟩
 have K:=mk7 C O hP hU du d5 ht;have kx:=Hid.mk' bc;clear bc;have bg:=Hid.mk' dm;have c0:=K3.r0.2.1 0 _ rfl;rw[hvI.out,cf.out,bv.out];go_enter func123,ntmps123;go_wp2_with (first|(refine aF (u:=vI) (v:=jZ k) (w':=w1) rfl 202 (.tmp 0) rfl ?_ ?_ ?_;rfl;exact B1.out)|(refine aF (u:=vl) (v:=.pointer (some ⟨k+1,0,none⟩)) (w':=w2) rfl 145 (.tmp 1) rfl ?_ ?_ ?_;rfl;exact B2.out)|(refine aF (u:=vG) (v:=.pointer (some ⟨k+2,0,none⟩)) (w':=w3) rfl 133 (.tmp 2) rfl ?_ ?_ ?_;rfl;exact B3.out)|fail)
 go_loopg [3,16] t (λm s3 s16 W=>∃i:Nat,i+m=t/\s16=iZ i/\Hid (∃v G H l,Gd N (2^(t-i)) (2^i) G ((aD C f).vst (chF N) ivF t B A v0 i).g/\Gd N (2^(t-i)) (2^i) H ((aD C f).vst (chF N) ivF t B A v0 i).h/\Tl N l ((aD C f).vst (chF N) ivF t B A v0 i).p/\l.length=l0.length+2*i/\Lk w W r k D E t a.val b.val (2^(t-i)) v s3 q Rb ((aD C f).vst (chF N) ivF t B A v0 i).s G H U l))
 case atStart=>exact⟨0,oM,rfl,K4⟩
 case round =>
  obtain⟨i,e2,rfl,KM⟩:=hrel;by_cases hi:i<t
  ·have dz:(i:Int)<(t:Int):=oM;obtain⟨v,G,H,l,hG,hH,hl,km,hR⟩:=KM.out;have HI:=Hid.mk' hi;obtain⟨m,hm⟩:∃m,m=2^(t-(i+1)):=⟨_,rfl⟩
   have kz:2^(t-i)=m+m:=by rw[hm,show t-i=t-(i+1)+1 by omega,V7];omega
   have ck:0<m:=by rw[hm];exact XI dC
   obtain⟨c,hc⟩:∃c,c=2^i:=⟨_,rfl⟩
   have k7:0<c:=by rw[hc];exact XI dC
   have bf:c*(m+m)<=64:=by
    rw[<-kz,hc,<-Nat.pow_add,show i+(t-i)=t by omega];exact UC (VA dC K.2.2.2.2.2.2) dC
   have HE:Hid (2^(t-(i+1))=m/\2^(i+1)=c+c):=⟨hm.symm,by rw[V7,hc];omega⟩
   rw[kz,<-hc]at hG hH;rw[kz]at hR;have da:=λ(s:Bs) (x:Fin N)=>Hv C f K.2.2.1 t B A v0 i m hm s x
   obtain⟨sx,n,ky,k0⟩:=JQ K.2.1 K.2.2.1 r ((aD C f).vst (chF N) ivF t B A v0 i).s (B i) (A i) (q i) (Rb i) (R.1 i) (R.2 i);have c5:=da sx n ky.1;have HS:=Hid.mk' c5;have d8:(q i).size=33:=by rw[R.1 i];exact aT _
   have cy:(Rb i).size=33:=by rw[R.2 i];exact aT _
   have k1:=Hid.mk' (V1 d8 cy);generalize d4:(aD C f).vst (chF N) ivF t B A v0 i=Vi at hG hH hl hR ky k0 HS;have HG:=Hid.mk' (V1 hG (V1 hH (V1 hl (V1 km (V1 ck (V1 k7 bf))))));clear hG hH hl km ck k7 bf d4;have HR:=Hid.mk' hR;clear hR;go_wp2_with fail
   have R0:=HR.drew;have h6:=λ(W:Ur) (hO:SP.Only r 0 32 wr.drew W)=>R0.rd hO HI.out
   have O0:SP.Only r 0 32 wr.drew wr.drew:=SP.Only.of_below (UR _ _) rfl (Holds.lt R0.lg (by rw[R0.ls];decide));obtain⟨dL,b6,cg⟩:=Uy.1 uLg;obtain⟨dP,ka,k8⟩:=Uy.1 uCP;have br:(prog.info? 103).map (·.size)=some (aA (q i)).length:=by rw[aB k1.1];exact iCP
   have bl:(prog.info? 103).map (·.size)=some (aA (Rb i)).length:=by rw[aB k1.2];exact iCP
   refine anyS.begin (λ_ W=>SP.Only r 0 32 wr.drew W) kR ?_;have bS:∀(p:Nat),Bef (λ_ W=>SP.Only r 0 32 wr.drew W) p wr.drew:=λp=>⟨#[],by simp,O0⟩
   refine anyS.row (i:=0) (d:=some 19) (cs:=[jZ r]) rfl 13 (λ_ _ h=>h) 145 5 (k+1) 0 dL rfl b6 cg iLg (λW ⟨l,e,h⟩=>(h6 W h).1) (bS 13) O0 ?_;simp only[UN,Us,Uu,Uv];refine anyS.val (i:=1) (d:=some 20) (x:=jZ k) rfl 13 (λ_ _ h=>h) (bS 13) O0 ?_;simp only[UN,Us,Uu,Uv];refine anyS.cel (i:=2) (d:=some 21) (x:=sZ D t t) rfl 13 (λ_ _ h=>h) 200 20 k 0 rfl uPL (λW ⟨l,e,h⟩=>(h6 W h).2.1) (bS 13) O0 ?_;simp only[UN,Us,Uu,Uv];refine anyS.val (i:=3) (d:=some 22) (x:=iZ i) rfl 13 (λ_ _ h=>h) (bS 13) O0 ?_;simp only[UN,Us,Uu,Uv];refine anyS.val (i:=4) (d:=some 23) (x:=.pointer (some ⟨D,0+33*i,none⟩)) rfl 13 (λ_ _ h=>h) (bS 13) O0 ?_ (λW=>DL (I:=Vl 200 (sZ D t t) (iZ i)) (atP D 0 t t i HI.out W));simp only[UN,Us,Uu,Uv];refine anyS.row (i:=5) (d:=some 24) (cs:=aA (q i)) rfl 13 (λ_ _ h=>h) 103 23 D (0+33*i) dP rfl ka k8 br (λW ⟨l,e,h⟩=>(h6 W h).2.2.2.1) (bS 13) O0 ?_;simp only[UN,Us,Uu,Uv];refine anyS.val (i:=6) (d:=some 25) (x:=oZ k 1) rfl 13 (λ_ _ h=>h) (bS 13) O0 ?_;simp only[UN,Us,Uu,Uv];refine anyS.cel (i:=7) (d:=some 26) (x:=sZ E t t) rfl 13 (λ_ _ h=>h) 200 25 k 1 rfl uPL (λW ⟨l,e,h⟩=>(h6 W h).2.2.1) (bS 13) O0 ?_;refine anyS.val (i:=8) (d:=some 27) (x:=iZ i) rfl 13 (λ_ _ h=>h) (bS 13) O0 ?_;refine anyS.val (i:=9) (d:=some 28) (x:=.pointer (some ⟨E,0+33*i,none⟩)) rfl 13 (λ_ _ h=>h) (bS 13) O0 ?_ (λW=>DL (I:=Vl 200 (sZ E t t) (iZ i)) (atP E 0 t t i HI.out W));refine anyS.row (i:=10) (d:=some 29) (cs:=aA (Rb i)) rfl 13 (λ_ _ h=>h) 103 28 E (0+33*i) dP rfl ka k8 bl (λW ⟨l,e,h⟩=>(h6 W h).2.2.2.2) (bS 13) O0 ?_;have h0:r<wr.drew.heap.size:=Holds.lt R0.lg (by rw[R0.ls];decide);have bA:=aC wr.drew (.cells #[uZ 0,uZ 0,uZ 0,uZ 0] 49);have oA:SP.Only r 0 32 wr.drew (wr.drew.alloc (.cells #[uZ 0,uZ 0,uZ 0,uZ 0] 49)):=SP.Only.of_below bA rfl h0;refine anyS.calal (i:=11) (j:=12) (di:=30) (dj:=10) (obj:=.cells #[uZ 0,uZ 0,uZ 0,uZ 0] 49) (F:=λv b W'=>v=nv n.val/\SP.Only r 0 32 wr.drew W'/\Holds encB W' r 0 sx/\wr.drew.heap.size<=b/\Row W' b [uZ 0,uZ 0,uZ 0,uZ 0]) rfl rfl (k0 wr.drew R0.lg R0.ls) (k0 _ (Holds.below R0.lg bA h0) R0.ls) oA ?_ ?_ (by intro _ _;kernel_rfl) ?_
   ·rintro v W' ⟨hO,hH,rfl⟩;have o:=aC W' (.cells #[uZ 0,uZ 0,uZ 0,uZ 0] 49);have J:=Ux h0 hO.size;exact⟨hO,hO.trans (SP.Only.of_below o rfl J),rfl,hO.trans (SP.Only.of_below o rfl J),Holds.below hH o J,hO.size,aE W' _ _⟩
   ·rintro v W' ⟨hO,hH,rfl⟩;exact⟨oA.trans hO,rfl,oA.trans hO,hH,Uw _,(aE wr.drew [uZ 0,uZ 0,uZ 0,uZ 0] 49).only hO (V8 h0)⟩
   ·rintro xv k2 W4 ⟨rfl,bn,c4,k4,kv⟩;have kw:SP.Only r 0 32 wr.drew (W4.setCells k2 0 (wn n.val)):=dW bn h0 k4 0;refine anyS.sta (i:=13) (d:=none) rfl 49 (.tmp 10) (.tmp 30) rfl k2 0 (wn n.val).toArray (aM _) kv.2.2 nSc kw ?_;simp only[UN,Us,Uu,Uv];refine anyS.fin kR ?_ _;intro W5 bu;have hu:=bu;have R5:Lk w W5 r k D E t a.val b.val (m+m) v u3 q Rb sx G H U l:=by rw[hu];exact R0.say kw (fE c4 oM) ky.2
    have r5:Row W5 k2 (wn n.val):=by rw[hu];exact kv.put rfl
    obtain⟨x,h7⟩:=hE (n.val);obtain⟨J,Y⟩:=hE ((n*n).val);obtain⟨xi,h8⟩:=hE ((ivF (n*n)).val);have ct:Hid (∀W:Ur,UH prog 79 #[nv x,nv x] W (rZ W λe w'=>e=nv J)):=by
     rw[<-h7.out,<-Y.out];exact λW=>iI K.2.1 n.val n.val n.isLt n.isLt W
    have ds:Hid (∀W:Ur,UH prog 159 #[nv J] W (rZ W λe w'=>e=nv xi)):=by
     rw[<-Y.out,<-h8.out];exact λW=>uS K.2.1 (n*n).val (n*n).isLt W
    rw[h7.out]at r5;rw[h7.out];have K5:=Hid.mk' (V1 R5 r5);clear R5 r5 hu bu kw bn c4 k4 kv R0 h6 O0 oA bA h0 HR k0;obtain⟨vx,h9⟩:=hE (nv x);have c6:Hid (∀W:Ur,UH prog 79 #[vx,vx] W (rZ W λe w'=>e=nv J)):=by rw[<-h9.out];exact ct.out
    obtain⟨dS,kd,kf⟩:=Uy.1 rSc;rw[h9.out];go_wp2_with (first|(refine ldR 10 K5.2.2.1 h9 rSc nSc ?_)|fail)
    refine(c6 W5).mono ?_;rintro e W6 ⟨uu,rfl,b7,rfl⟩;obtain⟨kj,ha⟩:=hE (W6.heap.size);obtain⟨W7,be⟩:=hE (W6.alloc (.cells #[uZ 0,uZ 0,uZ 0,uZ 0] 49));obtain⟨X,ki⟩:=hE (W7.setCells kj 0 (wn J));have F7:Hid (Row W7 kj [uZ 0,uZ 0,uZ 0,uZ 0]/\kZ W6 W7):=by rw[<-be.out,<-ha.out];exact⟨aE W6 _ _,aC _ _⟩
    have bj:kZ W5 X:=by
     have:kZ W6 X:=by rw[<-ki.out];exact RG.below_setCells (by rw[ha.out];exact Uw _) _ _ _ F7.2
     exact b7.trans (this.mono b7.size)
    have K8:Hid (Lk w X r k D E t a.val b.val (m+m) v u3 q Rb sx G H U l/\Row X k2 (wn x)/\Row X kj (wn J)):=⟨K5.1.grow bj,K5.2.below bj,by rw[<-ki.out];exact F7.1.put rfl⟩
    obtain⟨vq,kk⟩:=hE (nv J);rw[kk.out];go_wp2_with (first|(refine alR 11 ha be ?_)|(refine stR 11 ki kk F7.1.2.2 nSc (aM J) ?_)|fail)
    have dd:∀(W:Ur),kZ X W->∀g,W.heap.size<=g->QR r k g:=λW o g hg=>K8.1.qn g (UC o.size hg)
    have o8:∀(W:Ur),kZ X W->SP.Only r 0 32 X W:=λW o=>SP.Only.of_below o rfl (Holds.lt K8.1.lg (by rw[K8.1.ls];decide))
    have hq:=Hid.mk' (λ(W:Ur) (o:kZ X W)=>K8.1.rd (o8 W o) HI.out);have hp:=Hid.mk' dd;have tk:=HG.2.2.1.ok;have b5:TOk N [(J,q i)]:=by rw[<-Y.out,R.1 i];exact(Tl.pt C f (n*n) (B i)).ok
    have de:TOk N [(xi,Rb i)]:=by rw[<-h8.out,R.2 i];exact(Tl.pt C f (ivF (n*n)) (A i)).ok
    have e1:l.length<=200:=by have:=HG.2.2.2.1;have:=K.2.2.2.2.2.2;have:=HI.out;have:=kx.2;omega
    have kt:0<l.length:=by have:=HG.2.2.2.1;have:=kx.1;omega
    have bs:=Hid.mk' (λW=>kU (q i) k1.1 J W);have bq:=Hid.mk' (λW=>kU (Rb i) k1.2 xi W);have bo:=Hid.mk' (λ(s1 s2:Ut) (W:Ur) (h1:Sm 0 W s1 l) (h2:Sm 0 W s2 [(J,q i)])=>rT 0 s1 s2 l [(J,q i)] kt oM (by simp) tk.sz b5.sz W h1 h2);have bt:=Hid.mk' (λ(s1 s2:Ut) (W:Ur) (h1:Sm 0 W s1 (l++[(J,q i)])) (h2:Sm 0 W s2 [(xi,Rb i)])=>rT 0 s1 s2 (l++[(J,q i)]) [(xi,Rb i)] (by simp) (by simp;omega) (by simp) (tk.app b5).sz de.sz W h1 h2);rw[<-kk.out];refine(gwL [pE u3,pE (jZ k),pE (sZ D t t),pE (iZ i),pE (.pointer (some ⟨D,0+33*i,none⟩)),pE (pvl (q i)),pE (nv J),pM (QR r k) [(J,q i)],pM (QR r k) (l++[(J,q i)]),pE (oZ k 1),pE (sZ E t t),pE (iZ i),pE (.pointer (some ⟨E,0+33*i,none⟩)),pE (pvl (Rb i)),pE (nv J),pE (nv xi),pM (QR r k) [(xi,Rb i)],pM (QR r k) (l++[(J,q i)]++[(xi,Rb i)])] (λW=>kZ X W) (λW W' hb h=>h.trans (hb.mono h.size))).tail2 18 kR kR kR ⟨
     gO 3 u3,
     gO 4 (jZ k),
     fF 200 1 35 k 0 (sZ D t t) uPL (λx W h=>h) (λW o=>(hq W o).2.1) (λ_=>rfl),
     gO 9 (iZ i),
     RG.gX 2 36 3 37 (atP D 0 t t i HI.out),
     gLr 4 38 (λW o=>(hq W o).2.2.2.1) uCP br,
     gLo 11 (λW o=>RG.range_below K8.2.2.2.1 o K8.2.2.1) rSc nSc,
     eD 5 39 6 40 64 (λx y=>#[x,y]) (λz y W hx L o=>by
      obtain rfl:z=pvl (q i):=hx;obtain rfl:y=nv J:=L;refine(bs W).mono ?_;rintro e W' ⟨uu,rfl,hb,g,rfl,hg,M⟩;exact⟨_,rfl,hb,EB M (hp W o g hg)⟩),
     eD 0 34 7 41 65 (λx y=>#[x,y]) (λz y W hx L o=>by
      obtain rfl:z=u3:=hx;have L:=L;refine(bo z y W ((K8.1.grow o).sm.sm) L.sm).mono ?_;rintro e W' ⟨uu,rfl,hb,S⟩;exact⟨_,rfl,hb,S.q.mono λg hg=>hp.out W o g hg⟩),
     gP 4 (jZ k) (oZ k 1),
     fF 200 9 43 k 1 (sZ E t t) uPL (λx W h=>h) (λW o=>(hq W o).2.2.1) (λ_=>rfl),
     gO 9 (iZ i),
     RG.gX 10 44 11 45 (atP E 0 t t i HI.out),
     gLr 12 46 (λW o=>(hq W o).2.2.2.2) uCP bl,
     gLo 11 (λW o=>RG.range_below K8.2.2.2.1 o K8.2.2.1) rSc nSc,
     oW 14 48 159 (λx=>#[x]) (λz W hx o=>by
      obtain rfl:z=nv J:=hx;exact ds.out W),
     eD 13 47 15 49 64 (λx y=>#[x,y]) (λz y W hx L o=>by
      obtain rfl:z=pvl (Rb i):=hx;obtain rfl:y=nv xi:=L;refine(bq W).mono ?_;rintro e W' ⟨uu,rfl,hb,g,rfl,hg,M⟩;exact⟨_,rfl,hb,EB M (hp W o g hg)⟩),
     eD 8 42 16 50 65 (λx y=>#[x,y]) (λz y W hx L o=>by
      have hx:=hx;have L:=L;refine(bt z y W hx.sm L.sm).mono ?_;rintro e W' ⟨uu,rfl,hb,S⟩;exact⟨_,rfl,hb,S.q.mono λg hg=>hp.out W o g hg⟩),yCl⟩ (UR _ _).drew ?_
    intro V W9 bd kn;have kb:=bd 17 dC;have K9:=mk2 ((K8.1.grow kn).hide kb) (K8.2.1.below kn);dsimp only[bU,VK,Xl,Xm];generalize V 17=s17 at K9⊢;clear kb bd kn K8 hq hp bs bq bo bt;generalize V 0=y0;generalize V 1=y1;generalize V 2=y2;generalize V 3=y3;generalize V 4=y4;generalize V 5=y5;generalize V 6=y6;generalize V 7=y7;generalize V 8=y8;generalize V 9=y9;generalize V 10=ya;generalize V 11=yb;generalize V 12=yc;generalize V 13=yd;generalize V 14=ye;generalize V 15=yf;generalize V 16=yg;clear V;obtain⟨ev,k6,M,k9,Z⟩:=K9.1.r2;have bp:GOk N (m+m) c G H U:=sN (by have:=HG.2.2.2.2.1;omega) HG.2.2.2.2.2.1 HG.2.2.2.2.2.2 HG.1 HG.2.1 K.2.2.2.1 K.2.2.2.2.1 K.2.2.2.2.2.1;obtain⟨xo,ke⟩:∃x,Hid ((ivF n).val=x):=⟨_,rfl⟩
    have bk:x<N:=by rw[<-h7.out];exact n.isLt
    have bm:sIn N x=xo:=by rw[<-h7.out,<-ke.out];rfl
    have k3:=Fp K.2.1 m c HG.2.2.2.2.1 G H U bp x bk v W9 K9.1.qn K9.1.gr;rw[bm]at k3;obtain⟨yv,hn⟩:∃y,Hid (v=y):=⟨_,rfl⟩
    have L:Hid (U3 ev.toList.toArray=yv/\Row W9 (k+2) ev.toList/\(prog.info? 133).map (·.size)=some ev.toList.length/\ev.size=3):=⟨k6.symm.trans hn.out,Z,by rw[UK,M];exact iGr,M⟩
    rw[hn.out,h9.out]at k3;have cp:=Hid.mk' k3;obtain⟨dG,S,T⟩:=Uy.1 uGr;have cd:Hid (prog.underlying 133=some dG/\dG.isRow=true):=⟨S,T⟩
    clear k6 M k9 Z bp bk bm k3 S T;go_wp2_with (first|(refine U6 rfl 133 (.tmp 6) rfl (k+2) 0 ?_ ev.toList dG ?_ ?_ ?_ ?_ ?_;rfl;exact L.2.1.2.1;exact cd.1;exact cd.2;exact L.2.2.1;rw[L.1])|(refine ldR 10 K9.2.2.1 h9 rSc nSc ?_)|fail)
    refine cp.mono ?_;rintro e Wa ⟨vf,rfl,c9,c7⟩;obtain⟨ef,dy,he,kc⟩:=c7.ar;subst dy;have La:=(K9.1.grow c9).next c7 he kc;obtain⟨Wb,bh⟩:∃W,Hid (Wa.setCells (k+2) 0 ef.toList=W):=⟨_,rfl⟩
    rw[bh.out]at La;have b4:Hid (Wa.there (k+2) 0 ef.size/\(prog.info? 133).map (·.size)=some ef.size/\ef.all (·.oneCell')=true):=by
     refine⟨?_,by rw[he];exact iGr,kc⟩;rw[he];have:=(L.2.1.below c9).2.2;rw[UK,L.2.2.2]at this;exact this
    have c8:Hid (∃v G H l,Gd N (2^(t-(i+1))) (2^(i+1)) G ((aD C f).vst (chF N) ivF t B A v0 (i+1)).g/\Gd N (2^(t-(i+1))) (2^(i+1)) H ((aD C f).vst (chF N) ivF t B A v0 (i+1)).h/\Tl N l ((aD C f).vst (chF N) ivF t B A v0 (i+1)).p/\l.length=l0.length+2*(i+1)/\Lk w Wb r k D E t a.val b.val (2^(t-(i+1))) v s17 q Rb ((aD C f).vst (chF N) ivF t B A v0 (i+1)).s G H U l):=by
     show ∃v G H l,_;rw[HS.out,HE.1,HE.2];have g1:=HG.1.fold C f (ivF n) n;have g2:=HG.2.1.fold C f n (ivF n);rw[h7.out,ke.out]at g1 g2;have tl:=(HG.2.2.1.app C f (Tl.pt C f (n*n) (B i))).app C f (Tl.pt C f (ivF (n*n)) (A i));rw[Y.out,h8.out]at tl;have cu:Tl N (l++[(J,q i)]++[(xi,Rb i)]) ((aD C f).ad ((aD C f).ad Vi.p ((aD C f).ac (n*n) (B i))) ((aD C f).ac (ivF (n*n)) (A i))):=by rw[R.1 i,R.2 i];exact tl
     exact⟨_,_,_,_,g1,g2,cu,by have:=HG.2.2.2.1;simp;omega,La⟩
    obtain⟨vo,cn⟩:=hE (U3 ef);rw[cn.out];go_wp2_with (first|(refine U2 rfl 133 (.tmp 6) _ rfl (k+2) 0 ef ?_ ?_ ?_ ?_ ?_ ?_;rfl;exact cn.symm;exact b4.1;exact b4.2.1;exact b4.2.2;rw[bh.out])|fail)
    go_roundg (gk-1)
    case measure=>have:=HI.out;omega
    case rel=>exact⟨i+1,by have:=HI.out;omega,rfl,c8⟩
  ·have dz:¬(i:Int)<(t:Int):=oM;have db:i=t:=oM;obtain⟨v,G,H,l,hG,hH,hl,km,hR⟩:=KM.out;subst db;rw[Nat.sub_self,Nat.pow_zero]at hG hH hR;have k7:0<2^i:=XI dC;have c3:2^i<=64:=UC (VA dC K.2.2.2.2.2.2) dC;obtain⟨l1,l2,Y,dp,cv,cH,cM,cP⟩:=Sj (Q:=QR r k) C K.2.1 f K.2.2.1 k7 c3 hG hH K.2.2.2.1 K.2.2.2.2.1 K.2.2.2.2.2.1 hl (by have:=K.2.2.2.2.2.2;have:=kx.2;omega) a b;have d6:decide (Y=o33)=Bd:=by
    have h2:=cv.trans bg.symm;cases Bd with
    | true=>exact decide_eq_true (h2.2 rfl)
    | false=>exact decide_eq_false λh=>Bool.false_ne_true (h2.1 h)
   obtain⟨ev,k6,M,k9,Z⟩:=hR.r2;obtain⟨g1,kh⟩:=hE (wr.heap.size);obtain⟨n,ko⟩:=hE (wr.alloc (.cells (wn a.val).toArray 49));obtain⟨g2,V⟩:∃g,Hid (n.heap.size=g):=⟨_,rfl⟩
   obtain⟨W2,J⟩:∃W,Hid (n.alloc (.cells (wn b.val).toArray 49)=W):=⟨_,rfl⟩
   have b1:kZ wr n:=by rw[<-ko.out];exact aC _ _
   have b2:kZ n W2:=by rw[<-J.out];exact aC _ _
   have r1:Row n g1 (wn a.val):=by rw[<-ko.out,<-kh.out];exact aE wr _ _
   have r2:Row W2 g2 (wn b.val):=by rw[<-J.out,<-V.out];exact aE n _ _
   have L1:=hR.grow b1;have L2:=L1.grow b2;have q1:QR r k g1:=by rw[<-kh.out];exact hR.qn _ (Uw _)
   have q2:QR r k g2:=by rw[<-V.out];exact L1.qn _ (Uw _)
   have b9:=cH W2 v _ _ L2.gr (QL (r1.below b2) q1) (QL r2 q2);obtain⟨yv,hn⟩:∃y,Hid (v=y):=⟨_,rfl⟩
   obtain⟨va,ci⟩:∃y,Hid (nv a.val=y):=⟨_,rfl⟩
   obtain⟨vb,bz⟩:∃y,Hid (nv b.val=y):=⟨_,rfl⟩
   rw[hn.out]at b9;have ra:∀ {W:Ur},Row W k (inL D E i a.val b.val)->W.rangeAt k 2 (wn a.val)/\W.rangeAt k 6 (wn b.val):=λhW=>⟨λj z o=>by
    have:=hW.2.1 (2+j) z (by
     have X:j<4:=(UF.1 o).1;match j,X with
     | 0,_=>exact o
     | 1,_=>exact o
     | 2,_=>exact o
     | 3,_=>exact o
     | j+4,h=>omega)
    rw[UD]at this;exact this,λj z o=>by
    have:=hW.2.1 (6+j) z (by
     have X:j<4:=(UF.1 o).1;match j,X with
     | 0,_=>exact o
     | 1,_=>exact o
     | 2,_=>exact o
     | 3,_=>exact o
     | j+4,h=>omega)
    rw[UD]at this;exact this⟩
   have S1:Hid ((Vy 124 1 #[(0,va)]).run prog wr=.ok (sZ g1 1 1) n):=by rw[<-ci.out,<-kh.out,<-ko.out];exact SI a.val wr
   have S2:Hid ((Vy 124 1 #[(0,vb)]).run prog n=.ok (sZ g2 1 1) W2):=by rw[<-bz.out,<-V.out,<-J.out];exact SI b.val n
   have kp:=mk3 ((ra hR.r0).1) ((ra L1.r0).2) Z.2.1;have L:Hid (U3 ev.toList.toArray=yv/\(prog.info? 133).map (·.size)=some ev.toList.length):=⟨k6.symm.trans hn.out,by rw[UK,M];exact iGr⟩
   obtain⟨dG,S,T⟩:=Uy.1 uGr;obtain⟨dS,kd,kf⟩:=Uy.1 rSc;have HD:Hid ((prog.underlying 133=some dG/\dG.isRow=true)/\prog.underlying 49=some dS/\dS.isRow=true):=⟨⟨S,T⟩,kd,kf⟩
   have d7:=Hid.mk' b9;have ku:=Hid.mk' (V1 cM cP);have dl:=Hid.mk' L2;obtain⟨vz,co⟩:=hE (U3 z33.toArray);obtain⟨vy,b8⟩:=hE (pvl Y);rw[b8.out]at ku;have HZ:Hid (∀W,(binOp .eql 103 vy vz).run prog W=.ok (.bool Bd) W/\(Instr.build 103 #[]).run prog W=.ok vz W/\(eqGuard .eql 103 (.tmp 67) (.tmp 68) vy vz).run prog W=.ok () W):=by
    rw[<-co.out,<-b8.out,<-d6];exact λW=>⟨by rw[Mw];exact NQ dp rfl W,NV W,by unfold pvl;kernel_rfl⟩
   go_wp2_with (first|(refine U6 rfl 133 (.tmp 6) rfl (k+2) 0 ?_ ev.toList dG ?_ ?_ ?_ ?_ ?_;rfl;exact kp.2.2;exact HD.1.1;exact HD.1.2;exact L.2;rw[L.1])|(refine ldR 57 kp.1 ci rSc nSc ?_)|(refine ldR 60 kp.2.1 bz rSc nSc ?_)|(refine jC (v:=sZ g1 1 1) (w':=n) rfl 124 1 _ rfl #[(0,va)] ?_ ?_ ?_;kernel_rfl;exact S1.out)|(refine jC (v:=sZ g2 1 1) (w':=W2) rfl 124 1 _ rfl #[(0,vb)] ?_ ?_ ?_;kernel_rfl;exact S2.out)|fail)
   refine d7.mono ?_;rintro e W3 ⟨s1,rfl,dq,dw⟩;have L3:=dl.grow dq;have X:=Hid.mk' (V1 L3 (show Sm 0 W3 s1 l1 from by
    obtain⟨g,c,x1,x2,-,x4⟩:=dw;exact⟨g,c,x1,x2,Wy _,x4⟩))
   go_wp2_with fail
   refine(ku.1 W3 s1 u3 X.2 X.1.sm.sm).mono ?_;rintro e W4 ⟨s2,rfl,k4,dk⟩;have L4:=X.1.grow k4;have cj:=Hid.mk' (V1 L4 (show Sm 0 W4 s2 l2 from by
    obtain⟨g,c,x1,x2,-,x4⟩:=dk;exact⟨g,c,x1,x2,Wy _,x4⟩))
   go_wp2_with fail
   refine(ku.2 W4 s2 cj.2).mono ?_;rintro e W5 ⟨uu,rfl,d0,d9⟩;have bi:=d9.symm;subst bi;have L5:=Hid.mk' (cj.1.grow d0).on;go_wp2_with (first|(refine lJ (v:=vz) (w':=W5) rfl 103 _ rfl #[] ?_ ?_ ?_;kernel_rfl;exact(HZ W5).2.1)|(refine bG (v:=.bool Bd) (w':=W5) rfl (.binOp .eql 103 (.tmp 67) (.tmp 68) 103) rfl ?_ ?_;exact DL (I:=eqGuard .eql 103 (.tmp 67) (.tmp 68) vy vz >>= λ_=>binOp .eql 103 vy vz) (by rw[UV,(HZ W5).2.2];exact(HZ W5).1))|fail)
   go_ret;exact⟨_,rfl,L5.out,rfl⟩
end
section
open SPA
variable {P:Nat}[NeZero P]{N:Nat}
noncomputable def gPG (C:Fld P):OnP P:=⟨gG P,Cr C⟩
noncomputable def hPV (C:Fld P):OnP P:=lPt C iE []
theorem MR(n m:Nat):cmt P n m=EC.add (mul n (.some (hpt P iE []))) (mul m (gG P)):=by
 unfold cmt;generalize (.some (hpt P iE []):EC.Pt P)=H;show EC.add (EC.add none (eF ((n:Nat):Int) H)) (eF ((m:Nat):Int) (gG P))=_;rw[jJ];rfl
section
variable [NeZero N]
theorem yB(C:Fld P)(k:∀r:EC.Pt P,On r->mul N r=none)(a b:Fin N):wr (cmt P a.val b.val)=wP ((aD C k).cm (hPV C) (gPG C) a b):=by
 rw[MR];rfl
structure RvL(C:Fld P)(hord:∀r:EC.Pt P,On r->mul N r=none)(R:Rv N)(V A S C1 C2 L3 L6 L8:Bs):Prop where
 eV:V=wP (R.pV (aD C hord) (gPG C) (hPV C))
 eA:A=wP (R.pA (aD C hord) (gPG C) (gPt C ⟨#[108,101,102,116]⟩) (gPt C ⟨#[114,105,103,104,116]⟩))
 eS:S=wP (R.pS (aD C hord) (gPG C) (gPt C ⟨#[108,101,102,116]⟩) (gPt C ⟨#[114,105,103,104,116]⟩))
 e1:C1=wP (R.p1 (aD C hord) (gPG C) (hPV C))
 e2:C2=wP (R.p2 (aD C hord) (gPG C) (hPV C))
 l3:L3=bgL V R.n A S
 y:R.y=kM N L3
 z:R.z=kM N (bB L3)
 l6:L6=mdL (bB (bB L3)) C1 C2
 x:R.x=kM N L6
 l8:L8=enL (bB L6) R.tau.val R.mu.val R.t.val
 w:R.w=kM N L8
structure RvS(R:Rv N)(sd:List UInt8):Prop where
 s:∀i,(R.s i).val=chL N [115,108] [sd,(hZ i).toList]
 q:∀i,(R.q i).val=chL N [115,114] [sd,(hZ i).toList]
 al:R.al.val=chL N [97,108,112,104,97] [sd]
 rho:R.rho.val=chL N [114,104,111] [sd]
 t1:R.t1.val=chL N [116,97,117,49] [sd]
 t2:R.t2.val=chL N [116,97,117,50] [sd]
end
theorem Ue(q:Option Wu)(n c:Nat)(w:Ur):(Vy 24 1 #[(0,.slice q n c)]).run prog w=.ok (sZ w.heap.size 1 1) (w.alloc (.cells #[.slice q n c] 23)):=kR
theorem Bf(O:Ord N)(d:ByteArray)(i:d.size<=1000)(g:List UInt8)(q:Option Wu)(n c:Nat)(w:Ur)(l:PartOk w (.slice q n c) g){x:Nat}(hx:x=chL N d.data.toList [g]):
 ∃k f,Hid ((Vy 24 1 #[(0,.slice q n c)]).run prog w=.ok (sZ k 1 1) f)/\Hid (kZ w f)/\Hid (UH prog 60 #[.string d,sZ k 1 1] f (rZ f λe w'=>e=nv x)):=by
 have b:=aC w (.cells #[.slice q n c] 23);refine⟨_,_,Ue q n c w,b,?_⟩;rw[hx];refine Cz O d _ 1 1 [g] _ oM rfl dC (UX ⟨_,_,rfl,λj f=>?_⟩);obtain rfl:j=0:=by simp at f;omega
 exact⟨_,(aE w [.slice q n c] 23).2.1 0 _ rfl,l.below b⟩
def rp0:Rp:=⟨o33,o33,o33,o33,0,0,0⟩
theorem Iy:rp0.Ok:=⟨rfl,rfl,rfl,rfl⟩
end
namespace RG
variable {P:VD}{ops:Array Vk}{Q:Yo->Act->Ur->Prop}{w:Ur}{a0:Act}{L:Array Bool}{F:Flow}{m:Nat}
theorem SX:∀(k:Nat) (L:Array Bool) (a:Act) (w:Ur),wpAny P .any ops Q k L a w->anyS P ops Q (λ_ _=>True) k L a w
 | 0,_,_,_,h=>h
 | k+1,_,_,_,h=>⟨h.1,λi d=>wpOp_mono (λc w' b=>⟨trivial,SX k _ c w' b⟩) (h.2 i d)⟩
def yH(k:Array Vk)(n:Nat)(late:List Nat):Bool:=(VG n).all (λj=>late.contains j || nC k 5 n j) && (VG k.size).all (λi=>decide (i<=n) || depOn k i (i-1))
theorem yG{n i:Nat}{late:List Nat}(h:yH ops n late=true)(c:n<i)(b:i<ops.size):depOn ops i (i-1)=true:=by
 unfold yH at h;rw[UL]at h;have k:=Va.1 h.2 i (V0.2 b);rw[Xv,decide_eq_true_eq]at k;rcases k with k|k
 ·omega
 ·exact k
def lz(m n:Nat)(late:List Nat):Array Bool:=((VG m).map λi=>decide (i<n) && !late.contains i).toArray
structure LateP(P:VD)(F:Flow)(ops:Array Vk)(n:Nat)(late:List Nat)(j:Nat):Prop where
 lt:j<n
 o:∃o,ops[j]? = some o/\o.guard=none/\rC ops j=false/\(∀i oi,ops[i]? = some oi->i≠j->(i∈late\/n<=i)->(∀e∈oi.after,VP .any e=true->e.on≠j)->o.apart ops oi=true)/\(∃p op,n<=p/\ops[p]? = some op/\∃e∈op.after,VP .any e=true/\e.on=j)/\(∀e∈o.after,VP .any e=true->e.on<n/\e.on ∉ late)/\∃j' t,dB o j'=true/\aX ops j'=some t/\F.kill j'=[]/\∀v w,F.R j' v w->∃u,F.R j u w/\F.E j w w/\∀(a:Act) (W:Ur),a.eval (.tmp t)=v->(U5 a.eval o).run P W=.ok (.value u) W
theorem GL{id:Nat}(F:Flow)(n:Nat)(late:List Nat)(ke:∀j∈late,LateP P F ops n late j)(hQ:∀c (a:Act) t v w,Q (.panic c) (a.put (some t) v) w->Q (.panic c) a w)(hs:XL ops=true)(hn:n<ops.size)(hc:yH ops n late=true)(hm:P.follows .mixedOrders=true)(R:RegF P Q F ops a0 n)(hA:Als P F ops n)(hB:∀b,F.B b w.drew)
 (hp:∀(V:Nat->Ut) (w':Ur),(∀i,i<n->F.kill i=[]->F.R i (V i) w')->(∀b,F.killB b=[]->F.B b w')->(∀i j,i<n->j<n->i≠j->rC ops i=true->rC ops j=true->(aX ops i).isSome=true->(aX ops j).isSome=true->V i≠V j)->wpList P ops Q (ops.toList.drop n) (bU V (ops.toList.take n) 0 a0) w'):(V4 id ops true).wp P Q a0 w:=by
 have k1:∀(i:Nat) (o:Vk),ops[i]? = some o->∀e∈o.after,VP .any e=true->e.on<i:=λi o ho=>(R.of ho).1
 have key:∀(q:Nat) (L:Array Bool) (a:Act) (w:Ur),unl L=q->(∀j,n<=j->on L j=false)->InvF F ops a0 L a w->Sep ops L a->wpAny P .any ops Q q L a w:=by
  intro q;induction q with
  | zero =>
   intro L a w hu k y hS;have:=kN hu n (by rw[y.size];omega);rw[k n (Uw _)]at this;cases this
  | succ q ih =>
   intro L a w hu k y hS;by_cases g:∀j,j<n->j ∉ late->on L j=true
   ·by_cases h6:∃j,j∈late/\on L j=false
    ·obtain⟨j,s,G⟩:=h6;obtain⟨k5,o,ho,hg,h9,k2,⟨p,op,kd,k4,ka⟩,h5,Z,t,A,kf,k3,hz⟩:=ke j s;have H:∀x∈F.kill Z,on L x=false:=λx hx=>by rw[k3]at hx;cases hx
     obtain⟨V,C,T⟩:=y.all;have f:∀e∈o.after,VP .any e=true->on L e.on=true:=λe he hb=>g _ (h5 e he hb).1 (h5 e he hb).2
     obtain⟨e,he,Y⟩:=XO.1 A;simp only[UL,beq_iff_eq]at Y;have r:on L Z=true:=by rw[<-Y.2];exact f e he Y.1
     obtain⟨u,k7,k8,k9⟩:=hz (V Z) w (T Z r H);have k0:a.eval (.tmp t)=V Z:=A7 (C Z t r kf);have U:=(UZ.1 ho).1;have hw:L.getD j true=false:=by
      unfold on at G;rw[UI,U0 (by rw[y.size];exact U)]at G⊢;exact G
     have h0:∀i,on L i=true->i<n:=λi m=>by
      rcases Wq i n with h|h
      ·exact h
      ·rw[k i h]at m;cases m
     have K:=y.nx R k5 h0 ho G f k8 k7;have M:∀i,on (L.setIfInBounds j true) i=true->i≠j->on L i=true:=λi m D=>by
      rw[eC (by rw[y.size];exact U)]at m;rcases Xv _ _ ▸ m with m|m
      ·exact m
      ·exact absurd (by simpa using m:j=i).symm D
     have kb:Sep ops (L.setIfInBounds j true) (a.put o.dst u):=λi i2 di dj m k6 X E B z N=>by
      have hy:i≠j:=by rintro rfl;rw[h9]at E;cases E
      have ht:i2≠j:=by rintro rfl;rw[h9]at B;cases B
      have J:=hS i i2 di dj (M i m hy) (M i2 k6 ht) X E B z N;have I:∀i di O,i≠j->aX ops i=some di->o.dst=some O->O≠di:=λi di O D m hk e=>by
       subst e;exact D ((R.of ho).2 O hk |>.2 i m)
      cases hd:o.dst with
      | none=>exact J
      | some O=>rw[kC (I i di O hy z hd),kC (I i2 dj O ht N hd)];exact J
     have hq:=ih (L.setIfInBounds j true) (a.put o.dst u) w (by have:=lN hw;omega) (λi m=>by
      rw[eC (by rw[y.size];exact U),k i m];simp only[yAc,beq_eq_false_iff_ne];omega) K kb
     refine anyS.any _ _ _ _ (anyS.first (S:=λ_ _=>True) (p:=p) ho k4 ka oM (λ_ _ _=>trivial) (Region.noSelect_spec hs) (λc a w h=>by
      cases hd:o.dst with
      | none=>rw[hd]at h;exact h
      | some t=>rw[hd]at h;exact hQ c a t u w h) q L a w ?_ (λi oi J D h8 kc=>k2 i oi J D (by
      rcases Wq i n with h|h
      ·by_cases h7:i∈late
       ·exact U4 h7
       ·have O:=g i h h7;have I:=(UZ.1 J).1;unfold on at O;rw[UI,U0 (by rw[y.size];exact I)]at O h8;exact Bool.noConfusion (O.symm.trans h8)
      ·exact UX h) kc) (mem_ready.2 ⟨hw,o,ho,?_⟩) (U4 ⟨bI hg _,λW _=>k9 a W k0⟩) ⟨#[],by simp,yCl⟩ trivial (SX q _ _ _ hq))
     ·have:=k p kd;unfold on at this;exact this
     ·intro e he hb;exact f e he hb
    have r:∀j,j<n->on L j=true:=λj s=>by
     by_cases G:j∈late
     ·cases h:on L j with
      | true=>rfl
      | false=>exact absurd ⟨j,G,h⟩ h6
     ·exact g j s G
    have D:∀j,on L j=true↔j<n:=λj=>⟨λs=>(by
     rcases Wq j n with h|h
     ·exact h
     ·rw[k j h]at s;cases s),r j⟩
    obtain⟨V,C,T⟩:=y.all;have Y:=y.act R oM D C;have H:∀l:List Nat,l=[]->∀x∈l,on L x=false:=λl U x hx=>by rw[U]at hx;cases hx
    have M:=hp V w (λj s hk=>T j (r j s) (H _ hk)) (λb hb=>y.base b (H _ hb)) (λi j m s X E B z A e=>by
     obtain⟨di,z⟩:=Vr.1 z;obtain⟨dj,A⟩:=Vr.1 A;refine hS i j di dj (r i m) (r j s) X E B z A ?_;rw[C i di (r i m) z,C j dj (r j s) A,e])
    rw[<-Y]at M;exact zC (λi N O=>yG hc N O) k1 _ L a w n (Uw _) oM y.size D hu M
   ·refine⟨λB=>?_,λi m=>?_⟩
    ·exact absurd (λj s _=>y.full R B j oM) g
    ·obtain⟨N,o,ho,f⟩:=mem_ready.1 m;have I:=(UZ.1 ho).1;have J:on L i=false:=by
      unfold on;rw[UI]at N⊢;cases hh:L[i]? with
      | none=>rfl
      | some b=>rw[hh]at N;exact N
     have z:i<n:=by
      rcases Wq i n with h|h
      ·exact h
      ·exfalso;rcases Wq n i with O|O
       ·have:=gC ho f (yG hc O I);rw[k (i-1) oM]at this;cases this
       ·obtain rfl:i=n:=oM;refine g λj s G=>?_
        unfold yH at hc;rw[UL]at hc;have r:=Va.1 hc.1 j (V0.2 s);rw[Xv]at r;replace r:=r.resolve_left (by simpa using G);unfold nC at r;rw[Xv]at r;rcases r with r|r
        ·exact gC ho f r
        ·obtain⟨x,hx,A⟩:=List.any_eq_true.1 r;rw[UL]at A;exact wQ y 4 x j (by have:=V0.1 hx;omega) (gC ho f A.1) A.2
     refine wpOp_mono (λr w' K=>ih _ r w' (by have:=lN N;omega) (λj s=>?_) K.1 K.2) (stepS R hA z (λj s=>?_) ho J f y hS)
     ·rw[eC (by rw[y.size];exact I),k j s];simp only[yAc,beq_eq_false_iff_ne];omega
     ·rcases Wq j n with h|h
      ·exact h
      ·rw[k j h]at s;cases s
 have k:∀i,on (UJ ops.size false) i=false:=λi=>by
  unfold on;rw[UI,Array.getElem?_replicate];by_cases h:i<ops.size
  ·rw[yCj h];rfl
  ·rw[yCk h];rfl
 refine wp_region_any hm (key _ _ a0 _ ?_ (λj _=>k j) ⟨Array.size_replicate,(λi o _ h=>by rw[k]at h;cases h),rfl,rfl,λ_ _=>rfl,⟨λ_=>undef,λi d h=>(by rw[k]at h;cases h),λi h=>(by rw[k]at h;cases h)⟩,λb _=>hB b⟩ (λi j di dj m=>by rw[k]at m;cases m));unfold unl;rw[Y3,List.countP_replicate];simp
theorem late1{G:Gw}{n:Nat}{late:List Nat}{j:Nat}(p m:Nat)(t:WC)(g:∀v w,G.R m v w->∃u,G.R j u w/\∀o,ops[j]? = some o->∀W,(dA [t] o,(U5 (evo λ_=>v) o).run P W)=(true,.ok (.value u) W))
 (z:(decide (j<n) && decide (n<=p) && waits ops p j && Region.free .any ops (lz ops.size n late) j && !rC ops j && (match ops[j]? with|some o=>o.guard.isNone && o.after.all (λe=>!VP .any e || (decide (e.on<n) && !late.contains e.on)) && dB o m|none=>false))=true:=by kernel_rfl) (hd:aX ops m=some t:=by kernel_rfl):LateP P G.flow ops n late j:=by
 simp only[UL,decide_eq_true_eq,yAT]at z;obtain⟨⟨⟨⟨⟨J,I⟩,b⟩,A⟩,E⟩,c⟩:=z;cases ho:ops[j]? with
 | none=>rw[ho]at c;cases c
 | some o =>
  rw[ho]at c;simp only[UL]at c;obtain⟨⟨H,D⟩,B⟩:=c;have F:o.guard=none:=by simpa using H
  refine⟨J,o,ho,F,E,λi C d r k y=>Region.free_spec ho A i C d r ?_ y,?_,λe f l=>?_,m,t,B,hd,rfl,λv w hv=>?_⟩
  ·have q:=(UZ.1 d).1;unfold lz;rw[UI,Vg,Vz,List.getElem?_range q,Option.map_some,Option.getD_some];rcases k with k|k
   ·rw[List.contains_iff_mem.2 k,yBz,Bool.and_false]
   ·rw[decide_eq_false oM,Bool.false_and]
  ·unfold waits at b;cases q:ops[p]? with
   | none=>rw[q]at b;cases b
   | some op =>
    rw[q]at b;obtain⟨e,f,l⟩:=XO.1 b;simp only[UL,beq_iff_eq]at l;exact⟨p,op,I,q,e,f,l.1,l.2⟩
  ·have:=Array.all_eq_true'.1 D e f;rw[l,yBz,yAc,UL,decide_eq_true_eq,yAT]at this;exact⟨this.1,by simpa using this.2⟩
  ·obtain⟨u,s,x⟩:=g v w hv;refine⟨u,s,UR _ _,λa W f=>?_⟩;have h:=x o ho W;rw[V6.injEq]at h;rw[iU (a:=a) (λ_=>v) [t] h.1 (λK q=>by rw[WM.1 q];exact f)];exact h.2
theorem Gw.late{id:Nat}(G:Gw)(n:Nat)(l:List Nat)(b:∀j∈l,LateP P G.flow ops n l j)(q:Als P G.flow ops n)(k:(decide (n<ops.size) && yH ops n l && XL ops)=true)(g:P.follows .mixedOrders=true)(d:Be ops a0.tmps.size=true)(h:iK P Q G.flow ops a0 0 (ops.toList.take n))(o:G.B w.drew)
 (p:∀(V:Nat->Ut) (w':Ur),(∀i,i<n->G.R i (V i) w')->G.B w'->(∀i j,i<n->j<n->i≠j->rC ops i=true->rC ops j=true->(aX ops i).isSome=true->(aX ops j).isSome=true->V i≠V j)->wpList P ops Q (ops.toList.drop n) (bU V (ops.toList.take n) 0 a0) w') (m:∀c (a:Act) t v w,Q (.panic c) (a.put (some t) v) w->Q (.panic c) a w:=by exact λ_ _ _ _ _ h=>h):(V4 id ops true).wp P Q a0 w:=by
 rw[UL,UL,decide_eq_true_eq]at k;exact GL G.flow n l b m k.2 k.1.1 k.1.2 g (Gw.reg d h) q (λ_=>o) λV w' s r e=>p V w' (λi f=>s i f rfl) (r 0 rfl) e
end RG
section
section
variable {P:VD}{ops:Array Vk}{rest:List Vk}{op:Vk}{a a':Act}{w w':Ur}{Q:Yo->Act->Ur->Prop}{d:Option WC}{x v:Ut}{t:WC}{T:U8}{b off:Nat}{cs:List Ut}
theorem PW.begin{id:Nat}{l:List Vk}(h:wpList P l.toArray Q l a w):(V4 id l.toArray false).wp P Q a w:=wp_region_list h
theorem PW.dn(h:Q .normal a w):wpList P ops Q [] a w:=h
theorem PW.va(x:Ut)(h:wpList P ops Q rest a' w)(hd:op.dst=d:=by rfl)(c:op.guard=none:=by rfl)(hv:(U5 a.eval op).run P w=.ok (.value x) w:=by kernel_rfl)(b:a.put d x=a':=by(simp only[UN,Us,Uu,Uv])<;>rfl):wpList P ops Q (op :: rest) a w:=by
 subst b hd;exact Xg c λK k=>by
  unfold VT;rw[hv];exact k _ _ h
theorem PW.mv(h:wpList P ops Q rest a' w)(hd:op.dst=d:=by rfl)(c:op.guard=none:=by rfl)(k:op.op=.move (.tmp t):=by rfl)(hx:a.eval (.tmp t)=x:=by(conv=>lhs;whnf)<;>rfl)(b:a.put d x=a':=by(simp only[UN,Us,Uu,Uv])<;>rfl):wpList P ops Q (op :: rest) a w:=
 PW.va x h hd c (by unfold U5;rw[k];dsimp only;rw[hx];rfl) b
theorem PW.ns{I:Sem Ut}(hx:I.run P w=.ok x w')(h:wpList P ops Q rest a' w')(hd:op.dst=d:=by rfl)(c:op.guard=none:=by rfl)(e:U5 a.eval op=I >>= λv=>pure (Xp v):=by kernel_rfl)(b:a.put d x=a':=by(simp only[UN,Us,Uu,Uv])<;>rfl):wpList P ops Q (op :: rest) a w:=by
 subst b hd;exact Xg c λK k=>by
  unfold VT;rw[e,UV,hx];exact k _ _ h
theorem PW.ca{f:Xq}{args:Array Ut}{R:Ut->Ur->Prop}(k:UH P f args w (Ret R))(h:∀e w',R e w'->wpList P ops Q rest (a.put d e) w')(hd:op.dst=d:=by rfl)(c:op.guard=none:=by rfl)(hx:(U5 a.eval op).run P w=.ok (.enter f args) w:=by kernel_rfl):wpList P ops Q (op :: rest) a w:=by
 subst hd;exact Xg c λK b=>by
  unfold VT;rw[hx,WY];refine k.mono ?_;rintro e w' ⟨v,rfl,hR⟩;exact b _ _ (h v w' hR)
theorem PW.gi{f:Xq}{args:Array Ut}(k:UH P f args w (rZ w λe w'=>e=x))(h:∀w',kZ w w'->wpList P ops Q rest a' w')(hd:op.dst=d:=by rfl)(c:op.guard=none:=by rfl)(hx:(U5 a.eval op).run P w=.ok (.enter f args) w:=by kernel_rfl)(b:a.put d x=a':=by(simp only[UN,Us,Uu,Uv])<;>rfl):wpList P ops Q (op :: rest) a w:=
 PW.ca k (λe w' hR=>by
  obtain⟨g,rfl⟩:=hR;subst b;exact h w' g) hd c hx
theorem PW.al{g:Nat}{b:Obj}(f:Hid (w.heap.size=g))(i:Hid (w.alloc b=w'))(h:wpList P ops Q rest a' w')(hd:op.dst=d:=by rfl)(k:op.guard=none:=by rfl)(j:(U5 a.eval op).run P w=.ok (.value (jZ w.heap.size)) (w.alloc b):=by kernel_rfl)(e:a.put d (jZ g)=a':=by(simp only[UN,Us,Uu,Uv])<;>rfl):wpList P ops Q (op :: rest) a w:=by
 subst e hd;exact Xg k λK c=>by
  unfold VT;rw[j,f.out,i.out];exact c _ _ h
theorem PW.st(f:Hid (w.setCells b off cs=w'))(hv:Hid (.agg cs.toArray=v))(th:w.there b off cs.length)(g:(P.info? T).map (·.size)=some cs.length)(e:cs.toArray.all (·.oneCell')=true)(h:wpList P ops Q rest a' w')(hd:op.dst=none:=by rfl)(k:op.guard=none:=by rfl){y:XG}(ho:op.op=.store T (.tmp t) y:=by rfl)(hx:a.eval (.tmp t)=oZ b off:=by rfl)(d:a.eval y=v:=by rfl)(c:a.put none undef=a':=by(simp only[UN])<;>rfl):wpList P ops Q (op :: rest) a w:=
 U2 k T (.tmp t) y ho b off cs.toArray hx (d.trans hv.out.symm) th g e (by rw[show cs.toArray.toList=cs from rfl,f.out,hd,c];exact h)
theorem PW.ro(j:w.rangeAt b off cs)(hv:Hid (.agg cs.toArray=v))(c:(P.underlying T).map (·.isRow)=some true)(l:(P.info? T).map (·.size)=some cs.length)(h:wpList P ops Q rest a' w)(hd:op.dst=d:=by rfl)(k:op.guard=none:=by rfl)(ho:op.op=.load T (.tmp t):=by rfl)(hx:a.eval (.tmp t)=oZ b off:=by rfl)(e:a.put d v=a':=by(simp only[UN,Us,Uu,Uv])<;>rfl):wpList P ops Q (op :: rest) a w:=by
 obtain⟨g,i,f⟩:=Uy.1 c;exact U6 k T (.tmp t) ho b off hx cs g j i f l (by rw[hv.out,hd,e];exact h)
theorem PW.ce(c:w.cell? ⟨b,off,none⟩=some x)(e:(P.underlying T).map (·.isRow)=some false)(h:wpList P ops Q rest a' w)(hd:op.dst=d:=by rfl)(k:op.guard=none:=by rfl)(ho:op.op=.load T (.tmp t):=by rfl)(hx:a.eval (.tmp t)=oZ b off:=by rfl)(f:a.put d x=a':=by(simp only[UN,Us,Uu,Uv])<;>rfl):wpList P ops Q (op :: rest) a w:=
 PW.va x h hd k (by
  unfold U5;rw[ho];dsimp only;rw[hx,UV,fD c e];rfl) f
end
end
section
open SPA
variable {P:Nat}[NeZero P]{N:Nat}[NeZero N]
omit [NeZero N] in
theorem SLq.fin{Q:Nat->Prop}{W:Ur}{v:Ut}{n:Nat}{a:Nat->Nat}(b:Nat->Fin N)(h:SLq Q W v n a)(e:∀i,i<n->a i=(b i).val):SLq Q W v n (λi=>(b i).val):=h.congr e
omit [NeZero N] in
theorem Ln.fin{Q:Nat->Prop}{W:Ur}{v:Ut}{n:Nat}{a b:Nat->Nat}(c d:Nat->Fin N)(h:Ln Q W v n a b)(e:∀i,i<n->a i=(c i).val)(e':∀i,i<n->b i=(d i).val):Ln Q W v n (λi=>(c i).val) (λi=>(d i).val):=by
 obtain⟨x,y,g,f,k⟩:=h.ex;exact⟨x,y,g,f.congr e,k.congr e'⟩
theorem JZ(k:1<N)(v i:Nat):v/2^i%2=(btF N v i).val:=by
 exact(US (Ux (V5 _ dC) k)).symm
theorem P8(k:1<N)(v i:Nat):sMi N (v/2^i%2) 1=(btF N v i-1).val:=by
 rw[I7,<-JZ k,show(1:Fin N).val=1 from US k]
theorem RR(C:Fld P)(O:Ord N)(b:∀r:EC.Pt P,On r->mul N r=none)(o:IsP N)(n:Nat)(g:0<n)(D:n<=64)(a:Fin N)(l m:Nat->Fin N)(Gb X:Bs)(hG:wr (gG P)=Gb)(w:X=wP ((aD C b).ad ((aD C b).ac a (gPG C)) ((aD C b).ad ((aD C b).dt l (gPt C ⟨#[108,101,102,116]⟩) n) ((aD C b).dt m (gPt C ⟨#[114,105,103,104,116]⟩) n)))):
 ∃d lb,(∀W:Ur,UH prog 64 #[pvl Gb,nv a.val] W (rZ W λe w'=>Sm W.heap.size w' e d)) /\
  (∀(Q:Nat->Prop) (W:Ur) (v va c:Ut),GRq Q W v n (gGT P) (hGT P) (uGT P)->SLq Q W va n (λi=>(l i).val)->SLq Q W c n (λi=>(m i).val)->UH prog 66 #[v,va,c] W (rZ W λe w'=>Sm W.heap.size w' e lb)) /\
  (∀(W:Ur) (s z:Ut),Sm 0 W s d->Sm 0 W z lb->UH prog 65 #[s,z] W (rZ W λe w'=>Sm W.heap.size w' e (d++lb))) /\
  (∀(W:Ur) (v:Ut),Sm 0 W v (d++lb)->UH prog 67 #[v] W (rZ W λe w'=>e=pvl X)):=by
 have q:=vE C o.1 n;have f:=nK C o.1 n;have d:=sN g (by decide:0<1) oM q f (mR C o.1) yBV (by show 1<=16;decide);have y:Gb.size=33:=by rw[<-hG];exact aT _
 have t0:Tl N [(a.val,Gb)] ((aD C b).ac a (gPG C)):=by rw[<-hG];exact Tl.pt C b a (gPG C)
 have t1:=(q.cmb C b l).1.app C b (f.cmb C b m).1;have x:(dH N (λi=>(l i).val) (gGT P) n++dH N (λi=>(m i).val) (hGT P) n).length=n+n:=by rw[UA,(q.cmb C b l).2,(f.cmb C b m).2,Xi]
 have t2:=t0.app C b t1;refine⟨_,_,λW=>?_,λ_ W v va c p j t=>xJ O n 1 (gGT P) (hGT P) (uGT P) d _ _ (λi _=>(l i).isLt) (λi _=>(m i).isLt) v va c W p j t,λW s z p j=>cO 0 s z _ _ (by simp) (by simp) oM t0.ok.sz t1.ok.sz W (UX p) (UX j),λW v hv=>?_⟩
 ·refine(kU Gb y a.val W).mono ?_;rintro e W' ⟨u,rfl,B,k,rfl,d,hR⟩;exact⟨_,rfl,B,Sm.one hR d rfl⟩
 ·rw[w];exact t2.point C O b (by simp) (by rw[UA,x];simp;omega) hv
theorem lV(k:1<N)(x:Fin N)(i:Nat):pwN N x.val i=(pwF x i).val:=(EG k x i).symm
theorem OH(k:IsP N)(b:2<N)(R:Rv N)(i:Nat):sPl N (sTi N R.z.val (pwN N R.y.val i)) (sTi N (sTi N R.z.val R.z.val) (pwN N 2 i))=(R.sh i).val:=by
 show _=(R.z*pwF R.y i+R.z*R.z*pwF (ofF N 2) i).val;rw[mA,fL,fL,fL,<-lV k.1,<-lV k.1,show(ofF N 2).val=2 from US b]
def pLn(Q:Nat->Prop)(n:Nat)(a b:Nat->Nat):S1:=⟨λv w=>Ln Q w v n a b,λ_ _ _ k h=>h.keep (Kq.of_below k)⟩
omit [NeZero N] in
theorem xR(O:Ord N)(a b:Fin N)(W:Ur):UH prog 79 #[nv a.val,nv b.val] W (rZ W λe w'=>e=nv (a*b).val):=by
 rw[fL];exact iI O a.val b.val a.isLt b.isLt W
omit [NeZero N] in
theorem PL(O:Ord N)(a b:Fin N)(W:Ur):UH prog 80 #[nv a.val,nv b.val] W (rZ W λe w'=>e=nv (a+b).val):=by
 rw[mA];exact mY O a.val b.val a.isLt b.isLt W
theorem mP(O:Ord N)(k:IsP N){y:Fin N}{L:Bs}(h:y=kM N L):chS N L=y.val:=by
 rw[h];exact FD k.1 L (uU O _)
def Rf(b:Nat)(d i:Ut)(L:Bs):S1:=⟨λv w=>∃r,v=.tuple #[lgV r,d,i]/\b<=r/\r<w.heap.size/\Holds encB w r 0 L,λ_ _ _ c ⟨r,g,f,k,e⟩=>⟨r,g,f,Ux k c.size,Holds.below e c k⟩⟩
def Re(b:Nat)(L:Bs):S1:=⟨λv w=>∃r,v=lgV r/\b<=r/\r<w.heap.size/\Holds encB w r 0 L,λ_ _ _ c ⟨r,f,e,k,d⟩=>⟨r,f,e,Ux k c.size,Holds.below d c k⟩⟩
theorem DJ{W:Ur}{r k:Nat}{L:Bs}{u:Ut}{cs:List Ut}(h:Holds encB W r 0 L)(f:0<L.size)(g:Row W k (u :: cs))(d:∀b:UInt8,encB b≠u):r≠k:=by
 rintro rfl;have c:=(h 0 f).1;have e:=g.2.1 0 u rfl;rw[e]at c;exact d _ (Option.some.inj c).symm
theorem hG{α:Sort _}{p:Prop}(x:α)(h:∀y,Hid (x=y)->p):p:=h x rfl
structure RgA(B0 t:Nat)(p:Rp)(Lb Rb:Nat->Bs)(Ab Bb:Bs)(e:Ut)(W:Ur):Prop where
 ex:∃a b c d u m s vL vR vA vB,e=.agg #[r33 a,r33 b,r33 c,r33 d,r32 u,r32 m,r32 s,vL,vR,vA,vB]/\RgT (λ_=>True) W p a b c d u m s/\TlL (λ_=>True) B0 t W vL Lb/\TlL (λ_=>True) B0 t W vR Rb/\ElQ (λ_=>True) 32 W vA Ab/\ElQ (λ_=>True) 32 W vB Bb
omit [NeZero N] [NeZero P] in
theorem RgA.set{i t k:Nat}{p:Rp}{v Rb:Nat->Bs}{r q:Bs}{e:Ut}{W:Ur}{us vs:List Ut}(h:RgA i t p v Rb r q e W)(K:Row W k (.slice none 0 0 :: vs))(O:k<i):RgA i t p v Rb r q e (W.setCells k 0 us):=by
 obtain⟨a,b,c,d,u,m,s,M,L,D,F,E,f,A,hR,I,H⟩:=h.ex;have kq:Kq (·≠k) W (W.setCells k 0 us):=Kq.set λg l=>l
 have el:∀ {m:Nat}{x:Ut}{b:Bs},0<m->ElQ (λ_=>True) m W x b->ElQ (λ_=>True) m (W.setCells k 0 us) x b:=λG hx=>((hx.off G K).keep kq).mono2 λ_ _ _=>trivial
 have o:∀ {n:Ut}{B:Nat->Bs},TlL (λ_=>True) i t W n B->TlL (λ_=>True) i t (W.setCells k 0 us) n B:=λhx=>by
  obtain⟨xs,J,w⟩:=hx.ex;refine⟨xs,bZ J λg l=>aH k us 0 W g (by have:=(hx.lt l).1;omega),λj z=>?_⟩;obtain⟨x,y,C⟩:=w j z;exact⟨x,y,el dC C⟩
 exact⟨a,b,c,d,u,m,s,M,L,D,F,E,⟨el dC f.a,el dC f.b,el dC f.c,el dC f.d,el dC f.e,el dC f.f,el dC f.g⟩,o A,o hR,el dC I,el dC H⟩
theorem MK(C:Fld P)(k:∀r:EC.Pt P,On r->mul N r=none)(c:IsP N)(R:Rv N)(n:Nat):Gd N n 1 (oQ N R.y.val (hGT P)) (R.hh (aD C k) (gPt C ⟨#[114,105,103,104,116]⟩)):=by
 have g:=nK C c.1 n;refine⟨λi b=>?_,λi b=>by unfold oQ;rw[UQ];exact g.len i b⟩;have h:=(g.tl i b).tm C k (pwF (ivF R.y) i);rw[<-lV c.1]at h;exact h
theorem Ma(C:Fld P)(O:Ord N)(k:∀r:EC.Pt P,On r->mul N r=none)(L:IsP N)(t:Nat)(ht:t<=6)(R:Rv N)(hn:R.n=2^t)(hv:R.v<18446744073709551616)(hN:18446744073709551616<=N)(sd:List UInt8)(sq:Option Wu)(sn sc:Nat)(V A S C1 C2 L3 L6 L8:Bs)(U:RvL C k R V A S C1 C2 L3 L6 L8)(hS:RvS R sd)(q:Md.Ps Bs (Fin N) (OnP P))(j6:q.s=bB L8)(n6:q.a=R.a)(mw:q.b=R.b)(n7:q.g=gPt C ⟨#[108,101,102,116]⟩)(mn:q.h=R.hh (aD C k) (gPt C ⟨#[114,105,103,104,116]⟩))(u:OnP P)(hu:u=(aD C k).ac R.w (uPt C))(Lb Rb:Nat->Bs)(mm:∀j,Lb j=wP ((aD C k).pLi (chF N) ivF u t q j))(ms:∀j,Rb j=wP ((aD C k).pTi (chF N) ivF u t q j))(Ab Bb:Bs)(mg:Ab=bx (((aD C k).pst (chF N) ivF u t q t).a 0).val)(mh:Bb=bx (((aD C k).pst (chF N) ivF u t q t).b 0).val)(pz:Rp)(T:Hid (⟨A,S,C1,C2,R.tau.val,R.mu.val,R.t.val⟩=pz))(w:Ur)(hp:PartOk w (.slice sq sn sc) sd):
 UH prog 18 #[uZ (R.v:Int),nv R.k.val,iZ (R.n:Int),.slice sq sn sc] w (rZ w λe w'=>∃f,w.heap.size<=f/\RgA f t pz Lb Rb Ab Bb e w'):=by
 obtain⟨vr,h9⟩:=hE (nv R.k.val);obtain⟨va,hs⟩:=hE (nv R.al.val);obtain⟨vh,ha⟩:=hE (nv R.rho.val);obtain⟨v1,hl⟩:=hE (nv R.t1.val);obtain⟨v2,hk⟩:=hE (nv R.t2.val);obtain⟨k5,jt⟩:=hE (w.heap.size);obtain⟨w1,ic⟩:=hE (w.alloc (.cells (wn R.k.val).toArray 49));obtain⟨k8,j0⟩:=hE (w1.heap.size);obtain⟨w2,l0⟩:=hE (w1.alloc (.cells z11.toArray 28));have K2:=mk1 (((Mp.start w).new jt ic).new j0 l0);have B1:Hid ((Ve 49 vr).run prog w=.ok (jZ k5) w1):=by rw[<-h9.out,<-ic.out,<-jt.out];exact boxS _ w
 have n:R.n<=64:=by rw[hn];exact UC (VA dC ht) dC
 have kk:Hid (∀W,kZ w W->PartOk W (.slice sq sn sc) sd):=λW hb=>hp.below hb
 obtain⟨g3,w3,iy,lh,gr⟩:=Bf O ⟨#[97,108,112,104,97]⟩ dC sd sq sn sc w2 (kk w2 K2.bl) hS.al;rw[hs.out]at gr;rw[h9.out];go_enter func18,ntmps18;refine Uz ?_;refine PW.begin ?_;refine PW.ns B1.out ?_;refine PW.al j0 l0 ?_;refine PW.dn ?_;refine Uz ?_;refine PW.begin ?_;refine PW.mv ?_;refine PW.ns iy.out ?_;refine PW.gi gr.out λw4 jo=>?_
 have K4:=mk1 ((K2.grow lh.out).grow jo);obtain⟨g5,w5,l5,j9,fj⟩:=Bf O ⟨#[114,104,111]⟩ dC sd sq sn sc w4 (kk w4 K4.bl) hS.rho;rw[ha.out]at fj;clear gr jo lh iy K2;refine PW.mv ?_;refine PW.ns l5.out ?_;refine PW.gi fj.out λw6 ii=>?_
 have K6:=mk1 ((K4.grow j9.out).grow ii);clear fj j9 ii l5 K4;refine hG (w6.heap.size) λk9 je=>?_
 refine hG (w6.alloc (.cells (RG.z 4).toArray 49)) λw7 l6=>?_
 refine hG w7.heap.size λm7 co=>?_
 refine hG (w7.alloc (.cells (RG.z 4).toArray 49)) λw8 lm=>?_
 refine hG (w8.setCells k9 0 (wn R.al.val)) λw9 iz=>?_
 refine hG (w9.setCells m7 0 (wn R.rho.val)) λjh cf=>?_
 have K8:=mk1 ((K6.new je l6).new co lm);have K9:=mk1 (K8.put 2 iz);have i5:=mk1 (K9.put 3 cf);refine PW.al je l6 ?_;refine PW.al co lm ?_;refine PW.st iz hs (K8.th 2) i40 (aM _) ?_;refine PW.st cf ha (K9.th 3) i40 (aM _) ?_;clear K6 K8 K9;refine PW.dn ?_;obtain⟨pa,og,cy,dy,hy⟩:=Bf O ⟨#[116,97,117,49]⟩ dC sd sq sn sc jh (kk jh i5.bl) hS.t1;rw[hl.out]at hy;refine Uz ?_;refine PW.begin ?_;refine PW.mv ?_;refine PW.ns cy.out ?_;refine PW.gi hy.out λiw em=>?_
 have f9:=mk1 ((i5.grow dy.out).grow em);obtain⟨oy,ot,e0,ex,k0⟩:=Bf O ⟨#[116,97,117,50]⟩ dC sd sq sn sc iw (kk iw f9.bl) hS.t2;rw[hk.out]at k0;clear hy dy em cy i5;refine PW.mv ?_;refine PW.ns e0.out ?_;refine PW.gi k0.out λiu ek=>?_
 have jd:=mk1 ((f9.grow ex.out).grow ek);clear k0 ex ek e0 f9;refine hG (iu.heap.size) λnu ed=>?_
 refine hG (iu.alloc (.cells (RG.z 4).toArray 49)) λjg d9=>?_
 refine hG jg.heap.size λm0 es=>?_
 refine hG (jg.alloc (.cells (RG.z 4).toArray 49)) λnf f7=>?_
 refine hG (nf.setCells nu 0 (wn R.t1.val)) λnj ct=>?_
 refine hG (nj.setCells m0 0 (wn R.t2.val)) λj2 d6=>?_
 have fz:=mk1 ((jd.new ed d9).new es f7);have fd:=mk1 (fz.put 4 ct);have h8:=mk1 (fd.put 5 d6);refine PW.al ed d9 ?_;refine PW.al es f7 ?_;refine PW.st ct hl (fz.th 4) i40 (aM _) ?_;refine PW.st d6 hk (fd.th 5) i40 (aM _) ?_;clear jd fz fd;refine PW.dn ?_;have ji:=mk1 (RI O R.v hv R.n n sd sq sn sc j2 (kk j2 h8.bl));refine Uz ?_;refine PW.begin ?_;refine PW.mv ?_;refine PW.mv ?_;refine PW.mv ?_;refine PW.ca ji.out ?_;rintro e jm ⟨dd,xl,yl,rfl,j7,ll⟩;clear ji;obtain⟨o8,mr,rfl,i2,g1⟩:=(j7.fin R.l R.s (λi _=>JZ L.1 R.v i) (λi _=>(hS.s i).symm)).ex;obtain⟨m4,nh,rfl,gu,g8⟩:=(ll.fin R.m R.q (λi _=>P8 L.1 R.v i) (λi _=>(hS.q i).symm)).ex;clear j7 ll;have jr:=mk1 ((((h8.gets dd (pqS o8 R.n λi=>(R.l i).val) i2).has (pqS mr R.n λi=>(R.s i).val) (g1.mono λg hg=>h8.nk g hg)).has (pqS m4 R.n λi=>(R.m i).val) (gu.mono λg hg=>h8.nk g hg)).has (pqS nh R.n λi=>(R.q i).val) (g8.mono λg hg=>h8.nk g hg));obtain⟨kg,kp,b2,Y⟩:=(bY i2).2;obtain⟨ku,k4,kv,B⟩:=(bY g1).2;obtain⟨kx,kr,kc,e3⟩:=(bY gu).2;obtain⟨ki,ky,k1,e4⟩:=(bY g8).2;subst Y B e3 e4;clear i2 g1 gu g8 dd h8;simp only[UN,Us,Uu,Uv];refine PW.mv ?_;refine PW.va (.agg #[.slice (some ⟨kg,kp,none⟩) R.n b2,.slice (some ⟨ku,k4,none⟩) R.n kv]) ?_;refine PW.va (.agg #[.slice (some ⟨kx,kr,none⟩) R.n kc,.slice (some ⟨ki,ky,none⟩) R.n k1]) ?_;refine hG (jm.heap.size) λbc cu=>?_
 refine hG (jm.alloc (.cells [.slice none 0 0,.slice none 0 0].toArray 126)) λli df=>?_
 refine hG li.heap.size λbs du=>?_
 refine hG (li.alloc (.cells [.slice none 0 0,.slice none 0 0].toArray 126)) λmf eg=>?_
 refine hG (mf.setCells bc 0 [.slice (some ⟨kg,kp,none⟩) R.n b2,.slice (some ⟨ku,k4,none⟩) R.n kv]) λo7 dk=>?_
 refine hG (o7.setCells bs 0 [.slice (some ⟨kx,kr,none⟩) R.n kc,.slice (some ⟨ki,ky,none⟩) R.n k1]) λni db=>?_
 have i1:=mk1 ((jr.new cu df).new du eg);have i6:=mk1 (i1.put 6 dk);have jc:=mk1 (i6.put 7 db);refine PW.al cu df ?_;refine PW.al du eg ?_;refine PW.st dk (Hid.mk' rfl) (i1.th 6) iLi kR ?_;refine PW.st db (Hid.mk' rfl) (i6.th 7) iLi kR ?_;clear jr i1 i6;refine PW.dn ?_;have HG:=mk1 (xQ (P:=P) C R.n oM ni);refine Uz ?_;refine PW.begin ?_;refine PW.mv ?_;refine PW.ca HG.out ?_;rintro e mz ⟨cn,hG⟩;clear HG;obtain⟨q1,q2,q3,rfl,jn,jf,js⟩:=hG.ex;obtain⟨ga,oa,ca,Y⟩:∃g o c,q1=.slice (some ⟨g,o,none⟩) R.n c:=by obtain⟨g,o,c,h,-⟩:=jn;exact⟨g,o,c,h⟩
 obtain⟨gb,ob,cb,B⟩:∃g o c,q2=.slice (some ⟨g,o,none⟩) R.n c:=by obtain⟨g,o,c,h,-⟩:=jf;exact⟨g,o,c,h⟩
 obtain⟨gc,mc,cc,e3⟩:∃g m c,q3=sZ g m c:=by obtain⟨g,c,h,-⟩:=js;exact⟨g,_,c,h⟩
 subst Y B e3;have l9:=mk1 (jc.gets cn (pqG _ R.n (gGT P) (hGT P) (uGT P)) hG);clear hG jn jf js cn jc;simp only[UN,Us,Uu,Uv];have kz:=mk1 (NP (P:=P) C mz);refine hG (wr (gG P)) λGb bd=>?_
 have g7:Gb.size=33:=by rw[<-bd.out];exact aT _
 refine hG (pvl Gb) λvG hm=>?_
 rw[bd.out,hm.out]at kz;refine PW.gi kz.out λil ef=>?_
 have le:=mk1 (l9.grow ef);clear kz l9 ef;refine hG (il.heap.size) λmb cq=>?_
 refine hG (il.alloc (.cells [.slice none 0 0,.slice none 0 0,.slice none 0 0].toArray 133)) λjl f5=>?_
 refine hG jl.heap.size λml cv=>?_
 refine hG (jl.alloc (.cells z33.toArray 103)) λnl da=>?_
 refine hG (nl.setCells mb 0 [.slice (some ⟨ga,oa,none⟩) R.n ca,.slice (some ⟨gb,ob,none⟩) R.n cb,sZ gc mc cc]) λnm ey=>?_
 refine hG (nm.setCells ml 0 (aA Gb)) λjw eh=>?_
 have gy:=mk1 ((le.new cq f5).new cv da);have gs:=mk1 (gy.put 8 ey);have lG:(aA Gb).length=z33.length:=aB g7;have lc:=mk1 (gs.put 9 eh rfl lG);refine PW.al cq f5 ?_;refine PW.al cv da ?_;refine PW.st ey (Hid.mk' rfl) (gy.th 8) iGr kR ?_;refine PW.st eh hm (gs.th 9 rfl lG) (by rw[aB g7];exact iCP) (bW _) ?_;clear le gy gs;refine PW.dn ?_;refine hG (jw.heap.size) λl er=>?_
 refine hG (jw.alloc (.cells rp0.l.toArray 137)) λoz ea=>?_
 have fg:=mk1 (lc.new er ea);clear lc;refine Uz ?_;refine PW.begin ?_;refine PW.al er ea ?_;refine PW.dn ?_;have fl:0<R.n:=by rw[hn];exact XI dC
 have sA:A.size=33:=by rw[U.eA];exact aT _
 have sS:S.size=33:=by rw[U.eS];exact aT _
 have iG:(prog.info? 103).map (·.size)=some (aA Gb).length:=by rw[aB g7];exact iCP
 obtain⟨la,lb,cT,cL,cP,cX⟩:=RR C O k L R.n fl n R.al R.l R.m Gb A bd.out U.eA;have HX:=mk4 cT cL cP cX;clear cT cL cP cX;rw[hs.out,hm.out]at HX;refine hG (pvl A) λvA hvA=>?_
 rw[hvA.out]at HX;refine Uz ?_;refine AW.beg 12 12 (Iv.mp w _ _ true) fg.out.drew ?_;refine AW.ro 0 (λW h=>(h.at_ 9).2.1) hm uCP iG ?_;refine AW.ro 1 (λW h=>(h.at_ 2).2.1) hs u40 i40 ?_;refine AW.ro 3 (cs:=[.slice (some ⟨ga,oa,none⟩) R.n ca,.slice (some ⟨gb,ob,none⟩) R.n cb,sZ gc mc cc]) (λW h=>(h.at_ 8).2.1) (Hid.mk' rfl) uGr iGr ?_;refine AW.va 4 (jZ bc) ?_;refine AW.ce 5 uSl (λW h=>(h.at_ 6).2.1 0 _ rfl) ?_;refine AW.va 6 (jZ bs) ?_;refine AW.ce 7 uSl (λW h=>(h.at_ 7).2.1 0 _ rfl) ?_;refine AW.ca 2 (λ_=>HX.1 _) (λe w' h=>h.1) ?_;rintro e oi ⟨d8,f0⟩;simp only[UN,Us,Uu,Uv];refine AW.ca 8 (λh=>HX.2.1 _ _ _ _ _ (h.get 4) (h.get 0) (h.get 2)) (λe w' h=>h.1) ?_;rintro B ow ⟨ka,ei⟩;simp only[UN,Us,Uu,Uv];refine AW.ca 9 (λh=>HX.2.2.1 _ _ _ ((f0.q.keep (Kq.of_below ka)).sm) ei.q.sm) (λe w' h=>h.1) ?_;rintro e3 ou ⟨d7,c8⟩;simp only[UN,Us,Uu,Uv];refine AW.gi 10 (λh=>HX.2.2.2 _ _ c8.q.sm) λmo f3=>?_
 have fq:=mk1 ((((fg.drew.grow d8).grow ka).grow d7).grow f3);clear d8 ka d7 f3 f0 ei c8 fg HX;refine AW.nx 11 (jZ l) ?_;refine hG (mo.setCells l 0 (aA A)) λox kl=>?_
 have bn:=mk1 (Rp.Tx Iy (fq.at_ 10) sA);refine hG ({ rp0 with a:=A }:Rp) λp1 fb=>?_
 rw[fb.out]at bn;have i7:=mk1 (fq.upd 10 kl bn.2.1);refine AW.fi (us:=aA A) hvA (bW A) (by rw[aB sA];exact iCP) (λ_=>⟨bn.1,?_⟩);rw[kl.out];clear fq kl;obtain⟨la,lb,cT,cL,cP,cX⟩:=RR C O k L R.n fl n R.rho R.s R.q Gb S bd.out U.eS;have HX:=mk4 cT cL cP cX;clear cT cL cP cX;rw[ha.out,hm.out]at HX;refine hG (pvl S) λvS ip=>?_
 rw[ip.out]at HX;refine Uz ?_;refine AW.beg 12 12 (Iv.mp w _ _ true) i7.out.drew ?_;refine AW.ro 0 (λW h=>(h.at_ 9).2.1) hm uCP iG ?_;refine AW.ro 1 (λW h=>(h.at_ 3).2.1) ha u40 i40 ?_;refine AW.ro 3 (cs:=[.slice (some ⟨ga,oa,none⟩) R.n ca,.slice (some ⟨gb,ob,none⟩) R.n cb,sZ gc mc cc]) (λW h=>(h.at_ 8).2.1) (Hid.mk' rfl) uGr iGr ?_;refine AW.va 4 (oZ bc 1) ?_;refine AW.ce 5 uSl (λW h=>(h.at_ 6).2.1 1 _ rfl) ?_;refine AW.va 6 (oZ bs 1) ?_;refine AW.ce 7 uSl (λW h=>(h.at_ 7).2.1 1 _ rfl) ?_;refine AW.ca 2 (λ_=>HX.1 _) (λe w' h=>h.1) ?_;rintro e ol ⟨cg,ee⟩;simp only[UN,Us,Uu,Uv];refine AW.ca 8 (λh=>HX.2.1 _ _ _ _ _ (h.get 4) (h.get 1) (h.get 3)) (λe w' h=>h.1) ?_;rintro B oj ⟨kh,e7⟩;simp only[UN,Us,Uu,Uv];refine AW.ca 9 (λh=>HX.2.2.1 _ _ _ ((ee.q.keep (Kq.of_below kh)).sm) e7.q.sm) (λe w' h=>h.1) ?_;rintro e3 oo ⟨cz,cj⟩;simp only[UN,Us,Uu,Uv];refine AW.gi 10 (λh=>HX.2.2.2 _ _ cj.q.sm) λnb dh=>?_
 have fr:=mk1 ((((i7.drew.grow cg).grow kh).grow cz).grow dh);clear cg kh cz dh ee e7 cj i7 HX;refine AW.nx 11 (oZ l 33) ?_;refine hG (nb.setCells l 33 (aA S)) λke k6=>?_
 have hw:=mk1 (Rp.sets bn.2.2 (fr.at_ 10) sS);refine hG ({ p1 with s:=S }:Rp) λp2 fn=>?_
 rw[fn.out]at hw;have be:=mk1 (fr.upd 10 k6 hw.2.1);refine AW.fi (us:=aA S) ip (bW S) (by rw[aB sS];exact iCP) (λ_=>⟨hw.1,?_⟩);rw[k6.out];clear fr k6;refine hG (bB (bB L3)) λL5 gv=>?_
 have s5:L5.size=32:=by rw[<-gv.out];exact bE _ _
 have sV:V.size=33:=by rw[U.eV];exact aT _
 refine hG (U3 p2.l.toArray) λvp ik=>?_
 refine hG (pvl V) λvV jq=>?_
 refine hG (nv R.v) λvn ir=>?_
 refine hG (nv R.y.val) λvy M=>?_
 refine hG (nv R.z.val) λvz Z=>?_
 have d4:Hid (∀W,UH prog 68 #[vp,vV,iZ (R.n:Int)] W (rZ W λe w'=>∃r,e=.tuple #[lgV r,vy,vz]/\W.heap.size<=r/\Holds encB w' r 0 L5)):=λW=>by
  have h:=NX O p2 hw.2.2 V sV R.n oM W;rw[show bgL V R.n p2.a p2.s=L3 by rw[<-fn.out,<-fb.out];exact U.l3.symm,mP O L U.y,mP O L U.z,gv.out,ik.out,jq.out,M.out,Z.out]at h;exact h
 have dz:Hid (∀W,UH prog 69 #[vn,vr] W (rZ W λe w'=>e=vV)):=λW=>by
  have h:=oL C O (a:=R.v) (b:=R.k.val) oM R.k.isLt W;have e:(ofF N R.v).val=R.v:=US oM;have B:=yB C k (ofF N R.v) R.k;rw[e]at B;rw[B,show wP ((aD C k).cm (hPV C) (gPG C) (ofF N R.v) R.k)=V from U.eV.symm,ir.out,h9.out,jq.out]at h;exact h
 have ih:Hid (∀W,UH prog 70 #[uZ (R.v:Int)] W (rZ W λe w'=>e=vn)):=λW=>by
  rw[<-ir.out];exact zW R.v hv W
 refine hG ke.heap.size λb hb=>?_
 have kj:∀ {W},kZ ke W->b<=W.heap.size:=λh=>hb.out ▸ h.size
 refine Uz ?_;refine(gwL [pE vp,pE (uZ (R.v:Int)),pE vn,pE vr,pE vV,pE (iZ (R.n:Int)),Rf b vy vz L5,Rf b vy vz L5,Re b L5,pE vy,pE vz,RG.pN b [.pointer none],RG.pN b (RG.z 4),RG.pN b (RG.z 4)] (λW=>kZ ke W) (λW W' hb h=>h.trans (hb.mono h.size))).late 14 [9,10] (λj hj=>by
  rcases VX.1 hj with rfl|hj
  ·exact late1 15 7 75 λv W ⟨r,e,_⟩=>⟨vy,rfl,λo ho W'=>by
    cases ho
    rw[e];kernel_rfl⟩
  ·obtain rfl:=WM.1 hj;exact late1 16 7 75 λv W ⟨r,e,_⟩=>⟨vz,rfl,λo ho W'=>by
    cases ho
    rw[e];kernel_rfl⟩) (Kc [11,12,13] ⟨al1 [.pointer none] 145 zS,al1 (RG.z 4) 49 zS,al1 (RG.z 4) 49 zS,yCl⟩) kR kR kR ⟨
  gLo (cs:=p2.l) 17 (λW f=>((be.grow f).at_ 10).2.1) uRd (by rw[Rp.len hw.2.2];exact iRd) (hR:=λ_=>ik.out),
  gO 0 (uZ (R.v:Int)),
  oW 1 77 70 (λx=>#[x]) (λx W Y f=>by
   obtain rfl:x=uZ (R.v:Int):=Y;exact ih W),
  gLo (cs:=wn R.k.val) 5 (λW f=>((be.grow f).at_ 0).2.1) u40 i40 (hR:=λ_=>h9.out),
  eD 2 78 3 79 69 (λx y=>#[x,y]) (λx u W Y B f=>by
   obtain rfl:x=vn:=Y;obtain rfl:u=vr:=B;exact dz W),
  gO 2 (iZ (R.n:Int)),
  rG 0 76 4 80 5 81 68 (λx y z=>#[x,y,z]) (λx u z W Y B e3 f=>by
   obtain rfl:x=vp:=Y;obtain rfl:u=vV:=B;obtain rfl:z=iZ (R.n:Int):=e3;refine(d4 W).mono ?_;rintro e W' ⟨G,rfl,F,r,J,p,D⟩;exact⟨_,rfl,F,r,J,UC (kj f) p,Holds.lt D (by rw[s5];decide),D⟩),
  DT 6 82 id (λx W h=>h),
  bN λa W hp=>by
   obtain⟨r,e,F,J,p⟩:=hp.n 7 75 kR kR;exact⟨[(75,.tuple #[lgV r,vy,vz])],lgV r,W,⟨e,yCl⟩,kR,UR _ _,r,rfl,F,J,p⟩,
  bN λa W hp=>by
   obtain⟨r,e,F,J,p⟩:=hp.n 7 75 kR kR;exact⟨[(75,.tuple #[lgV r,vy,vz])],vy,W,⟨e,yCl⟩,kR,UR _ _,rfl⟩,
  bN λa W hp=>by
   obtain⟨r,e,F,J,p⟩:=hp.n 7 75 kR kR;exact⟨[(75,.tuple #[lgV r,vy,vz])],vz,W,⟨e,yCl⟩,kR,UR _ _,rfl⟩,
  xP [.pointer none] 145 (λW W' h f=>⟨_,rfl,kj f,h⟩),
  xP (RG.z 4) 49 (λW W' h f=>⟨_,rfl,kj f,h⟩),
  xP (RG.z 4) 49 (λW W' h f=>⟨_,rfl,kj f,h⟩),yCl⟩ ⟨rfl,rfl,rfl,Uw _,λ_ _=>rfl⟩ ?_
 intro X me hR f hD;obtain⟨r,e8,lr,lu,Hr⟩:=hR 8 dC;have e9:X 9=vy:=hR 9 dC;have j4:X 10=vz:=hR 10 dC;obtain⟨kw,bk,f8,gg⟩:=hR 11 dC;obtain⟨k3,bt,gk,g2⟩:=hR 12 dC;obtain⟨ko,bu,fy,fu⟩:=hR 13 dC;have d1:=hD 11 12 dC dC dC kR kR kR kR;have d2:=hD 11 13 dC dC dC kR kR kR kR;have d3:=hD 12 13 dC dC dC kR kR kR kR;rw[bk,bt]at d1;rw[bk,bu]at d2;rw[bt,bu]at d3;have n1:kw≠k3:=λe=>d1 (by rw[e])
 have n2:kw≠ko:=λe=>d2 (by rw[e])
 have n3:k3≠ko:=λe=>d3 (by rw[e])
 have m1:r≠kw:=DJ Hr (by rw[s5];decide) gg (λb e=>by cases e);have m2:r≠k3:=DJ Hr (by rw[s5];decide) g2 (λb e=>by cases e);have m3:r≠ko:=DJ Hr (by rw[s5];decide) fu (λb e=>by cases e);rw[<-hb.out]at lr f8 gk fy;have g9:=mk1 (be.adds f [(kw,[.pointer none]),(k3,RG.z 4),(ko,RG.z 4),(r,aA L5)] (by simp;omega) (λx hx=>by
  simp only[VX,UY,or_false]at hx;rcases hx with rfl|rfl|rfl|rfl
  ·exact⟨f8,gg⟩
  ·exact⟨gk,g2⟩
  ·exact⟨fy,fu⟩
  ·exact⟨lr,pW Hr lu⟩))
 dsimp only[bU,VK,Xl,Xm];simp only[UN,Us,Uu,Uv];rw[e8,e9,j4,bk,bt,bu];clear hR hD d1 d2 d3 n1 n2 n3 m1 m2 m3 f8 gk fy lr lu Hr gg g2 fu f e8 e9 j4 bk bt bu be d4 dz ih;refine hG (me.setCells kw 0 [jZ r]) λm9 ep=>?_
 refine hG (m9.setCells k3 0 (wn R.y.val)) λn8 dw=>?_
 refine hG (n8.setCells ko 0 (wn R.z.val)) λnn ci=>?_
 have ff:=mk1 (g9.put 11 ep);have fk:=mk1 (ff.put 12 dw);have kb:=mk1 (fk.put 13 ci);refine PW.st ep (Hid.mk' rfl) (g9.th 11) iLg kR ?_;refine PW.st dw M (ff.th 12) i40 (aM _) ?_;refine PW.st ci Z (fk.th 13) i40 (aM _) ?_;clear g9 ff fk kj hb;refine PW.dn ?_;have J:2<N:=oM;have fs:=mk1 (EE O J R.y.val R.z.val R.y.isLt R.z.isLt R.n oM nn);rw[M.out,Z.out]at fs;refine Uz ?_;refine PW.begin ?_;refine PW.ro (kb.at_ 12).2.1 M u40 i40 ?_;refine PW.ro (kb.at_ 13).2.1 Z u40 i40 ?_;refine PW.mv ?_;refine PW.ca fs.out ?_;rintro e lj ⟨eo,ls,rs,rfl,ba,c4⟩;clear fs;replace ba:=ba.fin (λ_=>-R.z) (λi _=>(I3 R.z).symm);replace c4:=c4.fin R.sh (λi _=>OH L J R i);have D:=mk1 ((kb.gets eo (pqS ls R.n λ_=>(-R.z).val) ba).has (pqS rs R.n λi=>(R.sh i).val) (c4.mono λg hg=>kb.nk g hg));clear ba c4 eo kb;simp only[UN,Us,Uu,Uv];refine PW.mv ?_;refine PW.va ls ?_;refine PW.va rs ?_;refine PW.va ls ?_;refine PW.va rs ?_;refine PW.dn ?_;obtain⟨Q,E⟩:=D.out.q;refine Uz ?_;refine(gwL [pE (.agg #[.slice (some ⟨kg,kp,none⟩) R.n b2,.slice (some ⟨ku,k4,none⟩) R.n kv]),pE ls,pLn Q R.n (λi=>(R.a0 i).val) (λi=>(R.s i).val),pE (.agg #[.slice (some ⟨kx,kr,none⟩) R.n kc,.slice (some ⟨ki,ky,none⟩) R.n k1]),pE vy,pE (iZ (R.n:Int)),RG.pS Q R.n (pwN N R.y.val),pLn Q R.n (λi=>sTi N (R.m i).val (pwN N R.y.val i)) (λi=>sTi N (R.q i).val (pwN N R.y.val i)),pE rs,pLn Q R.n (λi=>(R.b0 i).val) (λi=>(R.b1 i).val)] (λW=>kZ lj W) (λW W' hb h=>h.trans (hb.mono h.size))).tail2 10 kR kR kR ⟨
  gLo (cs:=[.slice (some ⟨kg,kp,none⟩) R.n b2,.slice (some ⟨ku,k4,none⟩) R.n kv]) 13 (λW f=>((D.grow f).at_ 6).2.1) uLi iLi,
  gO 21 ls,
  eD 0 93 1 94 72 (λx y=>#[x,y]) (λx u W Y B f=>by
   obtain rfl:x=.agg #[.slice (some ⟨kg,kp,none⟩) R.n b2,.slice (some ⟨ku,k4,none⟩) R.n kv]:=Y;obtain rfl:u=ls:=B;have K:=D.grow f;refine(ND O n (λi _=>(R.l i).isLt) (λi _=>(-R.z).isLt) (⟨_,_,rfl,K.uP E 0,K.uP E 1⟩:Ln Q W _ R.n _ _) (K.uP E 5)).mono ?_;rintro e W' ⟨G,rfl,F,J⟩;exact⟨_,rfl,F,(J.mono λg hg=>hg.elim id (K.nkq E g)).fin R.a0 R.s (λi _=>(mA (R.l i) (-R.z)).symm) (λ_ _=>rfl)⟩),
  gLo (cs:=[.slice (some ⟨kx,kr,none⟩) R.n kc,.slice (some ⟨ki,ky,none⟩) R.n k1]) 14 (λW f=>((D.grow f).at_ 7).2.1) uLi iLi,
  gLo (cs:=wn R.y.val) 19 (λW f=>((D.grow f).at_ 12).2.1) u40 i40 (hR:=λ_=>M.out),
  gO 2 (iZ (R.n:Int)),
  eD 4 97 5 98 74 (λx y=>#[x,y]) (λx u W Y B f=>by
   obtain rfl:x=vy:=Y;obtain rfl:u=iZ (R.n:Int):=B;rw[<-M.out];exact(Ny O R.y.val R.y.isLt R.n oM W).mono λe W' ⟨v,F,J,p⟩=>⟨v,F,J,p.mono λg hg=>(D.grow f).nkq E g hg⟩),
  eD 3 96 6 99 73 (λx y=>#[x,y]) (λx u W Y B f=>by
   obtain rfl:x=.agg #[.slice (some ⟨kx,kr,none⟩) R.n kc,.slice (some ⟨ki,ky,none⟩) R.n k1]:=Y;have K:=D.grow f;refine(RD O n (λi _=>(R.m i).isLt) (λi _=>(R.q i).isLt) (λi _=>wT O _ i) (⟨_,_,rfl,K.uP E 2,K.uP E 3⟩:Ln Q W _ R.n _ _) B).mono ?_;rintro e W' ⟨G,rfl,F,J⟩;exact⟨_,rfl,F,J.mono λg hg=>K.nkq E g hg⟩),
  gO 22 rs,
  eD 7 100 8 101 72 (λx y=>#[x,y]) (λx u W Y B f=>by
   obtain rfl:u=rs:=B;have K:=D.grow f;refine(ND O n (λi _=>V5 _ O.pos) (λi _=>(R.sh i).isLt) Y (K.uP E 6)).mono ?_;rintro e W' ⟨G,rfl,F,J⟩;refine⟨_,rfl,F,(J.mono λg hg=>hg.elim id (K.nkq E g)).fin R.b0 R.b1 (λi _=>?_) (λi _=>?_)⟩
   ·show _=(R.m i*pwF R.y i+R.sh i).val;rw[mA,fL,<-lV L.1];rfl
   ·show _=(R.q i*pwF R.y i).val;rw[fL,<-lV L.1]),yCl⟩ ⟨rfl,rfl,rfl,Uw _,λ_ _=>rfl⟩ ?_
 intro X md hR f;obtain⟨n5,ly,B,H,I⟩:=(hR 2 dC).ex;obtain⟨m6,ma,e9,i0,ib⟩:=(hR 9 dC).ex;have fm:=mk1 (((((D.grow f).MH E (pqS n5 R.n λi=>(R.a0 i).val) H).MH E (pqS ly R.n λi=>(R.s i).val) I).MH E (pqS m6 R.n λi=>(R.b0 i).val) i0).MH E (pqS ma R.n λi=>(R.b1 i).val) ib);obtain⟨c7,c5,bj,e3⟩:=(bY H).2;obtain⟨b5,bz,bf,e4⟩:=(bY I).2;obtain⟨bq,c6,b8,e5⟩:=(bY i0).2;obtain⟨b6,bb,c3,e6⟩:=(bY ib).2;subst e3 e4 e5 e6;dsimp only[bU,VK,Xl,Xm];simp only[UN,Us,Uu,Uv];rw[B,e9];clear hR f H I i0 ib B e9 D E;refine hG (md.setCells bc 0 [.slice (some ⟨c7,c5,none⟩) R.n bj,.slice (some ⟨b5,bz,none⟩) R.n bf]) λmq ec=>?_
 refine hG (mq.setCells bs 0 [.slice (some ⟨bq,c6,none⟩) R.n b8,.slice (some ⟨b6,bb,none⟩) R.n c3]) λkd d0=>?_
 have i9:=mk1 (fm.put 6 ec);have K:=mk1 (i9.put 7 d0);refine PW.st ec (Hid.mk' rfl) (fm.th 6) iLi kR ?_;refine PW.st d0 (Hid.mk' rfl) (i9.th 7) iLi kR ?_;clear fm i9;refine PW.dn ?_;refine hG (nv R.c1.val) λgt h7=>?_
 refine hG (nv R.c2.val) λfh h6=>?_
 have lg:Hid (UH prog 75 #[.agg #[.slice (some ⟨c7,c5,none⟩) R.n bj,.slice (some ⟨b5,bz,none⟩) R.n bf],.agg #[.slice (some ⟨bq,c6,none⟩) R.n b8,.slice (some ⟨b6,bb,none⟩) R.n c3]] kd (rZ kd λe w'=>e=.tuple #[gt,fh])):=by
  have h:=RH O n (λi _=>⟨(R.a0 i).isLt,(R.s i).isLt,(R.b0 i).isLt,(R.b1 i).isLt⟩) (⟨_,_,rfl,K.get 7,K.get 8⟩:Ln _ kd _ R.n _ _) (⟨_,_,rfl,K.get 9,K.get 10⟩:Ln _ kd _ R.n _ _);rw[kE,kE,kE,<-mA,show Md.pr R.a0 R.b1 R.n+Md.pr R.s R.b0 R.n=R.c1 from rfl,show Md.pr R.s R.b1 R.n=R.c2 from rfl,h7.out,h6.out]at h;exact h
 refine Uz ?_;refine PW.begin ?_;refine PW.ro (cs:=[.slice (some ⟨c7,c5,none⟩) R.n bj,.slice (some ⟨b5,bz,none⟩) R.n bf]) (K.at_ 6).2.1 (Hid.mk' rfl) uLi iLi ?_;refine PW.ro (cs:=[.slice (some ⟨bq,c6,none⟩) R.n b8,.slice (some ⟨b6,bb,none⟩) R.n c3]) (K.at_ 7).2.1 (Hid.mk' rfl) uLi iLi ?_;refine PW.gi lg.out λlw dx=>?_
 have ln:=mk1 (K.grow dx);clear lg dx K;refine PW.mv ?_;refine PW.va gt ?_;refine PW.va fh ?_;refine hG (lw.heap.size) λnq d5=>?_
 refine hG (lw.alloc (.cells (RG.z 4).toArray 49)) λjk ew=>?_
 refine hG jk.heap.size λo9 et=>?_
 refine hG (jk.alloc (.cells (RG.z 4).toArray 49)) λoc de=>?_
 refine hG (oc.setCells nq 0 (wn R.c1.val)) λny cd=>?_
 refine hG (ny.setCells o9 0 (wn R.c2.val)) λoh dp=>?_
 have i8:=mk1 ((ln.new d5 ew).new et de);have i4:=mk1 (i8.put 15 cd);have ia:=mk1 (i4.put 16 dp);refine PW.al d5 ew ?_;refine PW.al et de ?_;refine PW.st cd h7 (i8.th 15) i40 (aM _) ?_;refine PW.st dp h6 (i4.th 16) i40 (aM _) ?_;clear ln i8 i4;refine PW.dn ?_;have sC:C1.size=33:=by rw[U.e1];exact aT _
 have sD:C2.size=33:=by rw[U.e2];exact aT _
 refine hG (pvl C1) λvC jv=>?_
 refine hG (pvl C2) λvD l1=>?_
 have ij:Hid (∀W,UH prog 69 #[gt,v1] W (rZ W λe w'=>e=vC)):=λW=>by
  have h:=oL C O R.c1.isLt R.t1.isLt W;rw[yB C k R.c1 R.t1,show wP ((aD C k).cm (hPV C) (gPG C) R.c1 R.t1)=C1 from U.e1.symm,h7.out,hl.out,jv.out]at h;exact h
 have ja:Hid (∀W,UH prog 69 #[fh,v2] W (rZ W λe w'=>e=vD)):=λW=>by
  have h:=oL C O R.c2.isLt R.t2.isLt W;rw[yB C k R.c2 R.t2,show wP ((aD C k).cm (hPV C) (gPG C) R.c2 R.t2)=C2 from U.e2.symm,h6.out,hk.out,l1.out]at h;exact h
 refine Uz ?_;refine AW.beg 9 9 (Iv.mx w _ _ 10 l false) (ia.out.drew.wk 10) ?_;refine AW.ro 0 (λW ⟨_,h⟩=>(h.at_ 15).2.1) h7 u40 i40 ?_;refine AW.ro 1 (λW ⟨_,h⟩=>(h.at_ 4).2.1) hl u40 i40 ?_;refine AW.ro 3 (λW ⟨_,h⟩=>(h.at_ 16).2.1) h6 u40 i40 ?_;refine AW.ro 4 (λW ⟨_,h⟩=>(h.at_ 5).2.1) hk u40 i40 ?_;refine AW.gi 2 (λ_=>ij _) λoq eu=>?_
 refine AW.va 6 (oZ l 66) ?_;refine AW.gi 5 (λ_=>ja _) λm8 f4=>?_
 have ge:=mk1 ((ia.drew.grow eu).grow f4);clear eu f4 ia ij ja;refine hG (m8.setCells l 66 (aA C1)) λn0 en=>?_
 refine hG (n0.setCells l 99 (aA C2)) λgh ds=>?_
 have k2:=mk1 (Rp.Tw hw.2.2 (ge.at_ 10) sC);refine hG ({ p2 with c:=C1 }:Rp) λp3 fe=>?_
 rw[fe.out]at k2;have br:=mk1 (ge.upd 10 en k2.2.1);have h0:=mk1 (Rp.Tv k2.2.2 (br.at_ 10) sD);refine hG ({ p3 with d:=C2 }:Rp) λp4 g0=>?_
 rw[g0.out]at h0;have hq:=mk1 (br.upd 10 ds h0.2.1);refine AW.ss 7 jv (bW C1) (by rw[aB sC];exact iCP) en (λ_=>⟨k2.1,br.out.wk 10⟩) ?_;refine AW.nx 8 (oZ l 99) ?_;refine AW.ss 9 l1 (bW C2) (by rw[aB sD];exact iCP) ds (λ_=>⟨h0.1,hq.out.wk 10⟩) ?_;refine AW.dn λ_=>?_
 clear ge br k2;refine hG (bB L6) λL7 fx=>?_
 have s7:L7.size=32:=by rw[<-fx.out];exact bE _ _
 refine hG (nv R.x.val) λvx p=>?_
 refine hG (U3 p4.l.toArray) λvq j5=>?_
 refine hG (lgV r) λvl hr=>?_
 have j3:Hid (UH prog 76 #[vq,vl] gh (Ret λe w'=>SP.Only r 0 32 gh w'/\Holds encB w' r 0 L7/\e=vx)):=by
  have h:=NC O p4 h0.2.2 r L5 gh (hq.log 14) s5;rw[<-gv.out,show mdL (bB (bB L3)) p4.c p4.d=L6 by rw[<-g0.out,<-fe.out];exact U.l6.symm,mP O L U.x,fx.out,j5.out,hr.out,p.out]at h;exact h
 refine Uz ?_;refine PW.begin ?_;refine PW.ro (cs:=p4.l) (hq.at_ 10).2.1 j5 uRd (by rw[Rp.len h0.2.2];exact iRd) ?_;refine PW.ro (hq.at_ 11).2.1 hr uLg iLg ?_;refine PW.ca j3.out ?_;rintro e im ⟨hO,hH,he⟩;obtain rfl:=he.symm;have lv:=mk1 (hq.say 14 hO hH);clear j3 hO hH hq;simp only[UN,Us,Uu,Uv];refine hG (im.heap.size) λo4 dm=>?_
 refine hG (im.alloc (.cells (RG.z 4).toArray 49)) λnc cx=>?_
 refine hG (nc.setCells o4 0 (wn R.x.val)) λom ck=>?_
 have fp:=mk1 (lv.new dm cx);have gm:=mk1 (fp.put 17 ck);refine PW.al dm cx ?_;refine PW.st ck p (fp.th 17) i40 (aM _) ?_;clear lv fp;refine PW.dn ?_;have gp:Hid (∀(a b c:Nat->Fin N) (v:Ut) (Q:Nat->Prop) (W:Ur),(∀i,c i=a i+b i*R.x)->Ln Q W v R.n (λi=>(a i).val) (λi=>(b i).val)->UH prog 77 #[v,vx] W (rZ W λe w'=>SLq (W.heap.size<=·) w' e R.n (λi=>(c i).val))):=λa b c v Q W hc h=>by
  have h:=RL O n (λi _=>(a i).isLt) (λi _=>(b i).isLt) R.x.isLt h;rw[p.out]at h;refine h.mono ?_;rintro e w' ⟨G,rfl,F,J⟩;exact⟨_,rfl,F,J.fin c λi _=>by rw[hc,mA,fL]⟩
 refine Uz ?_;refine AW.beg 7 7 (Iv.mp w _ _ false) gm.out.drew ?_;refine AW.ro 0 (cs:=[.slice (some ⟨c7,c5,none⟩) R.n bj,.slice (some ⟨b5,bz,none⟩) R.n bf]) (λW h=>(h.at_ 6).2.1) (Hid.mk' rfl) uLi iLi ?_;refine AW.ro 1 (λW h=>(h.at_ 17).2.1) p u40 i40 ?_;refine AW.ro 3 (cs:=[.slice (some ⟨bq,c6,none⟩) R.n b8,.slice (some ⟨b6,bb,none⟩) R.n c3]) (λW h=>(h.at_ 7).2.1) (Hid.mk' rfl) uLi iLi ?_;refine AW.ro 4 (λW h=>(h.at_ 17).2.1) p u40 i40 ?_;refine AW.ca 2 (λh=>gp R.a0 R.s R.a _ _ _ (λ_=>rfl) (⟨_,_,rfl,h.get 7,h.get 8⟩:Ln _ _ _ R.n _ _)) (λe w' h=>h.1) ?_;rintro av ov ⟨dq,l7⟩;simp only[UN,Us,Uu,Uv];refine AW.ca 5 (λh=>gp R.b0 R.b1 R.b _ _ _ (λ_=>rfl) (⟨_,_,rfl,h.get 9,h.get 10⟩:Ln _ _ _ R.n _ _)) (λe w' h=>h.1) ?_;rintro bv bm ⟨eb,ie⟩;simp only[UN,Us,Uu,Uv];have jj:=mk1 (gm.drew.gets dq (pqS av R.n λi=>(R.a i).val) l7);have bl:=mk1 (jj.gets eb (pqS bv R.n λi=>(R.b i).val) ie);clear gp dq eb l7 ie gm jj;refine AW.nx 6 av ?_;refine AW.nx 7 bv ?_;refine AW.dn λ_=>?_
 refine hG (nv R.t.val) λvt jy=>?_
 have iq:Hid (UH prog 78 #[av,bv] bm (rZ bm λe w'=>e=vt)):=by
  have h:=Bc O R.n oM (λi=>(R.a i).val) (λi=>(R.b i).val) (λi _=>(R.a i).isLt) (λi _=>(R.b i).isLt) av bv bm (bl.get 11) (bl.get 12);rw[kE,show Md.pr R.a R.b R.n=R.t from rfl,jy.out]at h;exact h
 refine Uz ?_;refine PW.begin ?_;refine PW.mv ?_;refine PW.mv ?_;refine PW.gi iq.out λmt ej=>?_
 have gn:=mk1 (bl.grow ej);clear iq ej bl;refine PW.va (oZ l 140) ?_;refine hG (mt.setCells l 140 (wn R.t.val)) λp9 cp=>?_
 have b3:=mk1 (Rp.Tt h0.2.2 (gn.at_ 10) R.t.val);refine hG ({ p4 with t:=R.t.val }:Rp) λp5 l2=>?_
 rw[l2.out]at b3;have gz:=mk1 (gn.upd 10 cp b3.2.1);refine PW.st cp jy b3.1 i40 (aM _) ?_;clear gn h0;refine PW.dn ?_;refine hG (nv (R.t1*R.x).val) λu1 o0=>?_
 refine hG (nv (R.t2*R.x).val) λu2 na=>?_
 refine hG (nv (R.t2*R.x*R.x).val) λu3 o2=>?_
 refine hG (nv (R.t1*R.x+R.t2*R.x*R.x).val) λu4 o6=>?_
 refine hG (nv (R.z*R.z).val) λu5 nz=>?_
 refine hG (nv (R.z*R.z*R.k).val) λu6 m5=>?_
 refine hG (nv R.tau.val) λu7 io=>?_
 have HT:=mk7 (λW=>xR O R.t1 R.x W) (λW=>xR O R.t2 R.x W) (λW=>xR O (R.t2*R.x) R.x W) (λW=>PL O (R.t1*R.x) (R.t2*R.x*R.x) W) (λW=>xR O R.z R.z W) (λW=>xR O (R.z*R.z) R.k W) (λW=>PL O (R.t1*R.x+R.t2*R.x*R.x) (R.z*R.z*R.k) W);rw[show R.t1*R.x+R.t2*R.x*R.x+R.z*R.z*R.k=R.tau from rfl,o0.out,na.out,o2.out,o6.out,nz.out,m5.out,io.out,hl.out,hk.out,p.out,Z.out,h9.out]at HT;refine Uz ?_;refine AW.beg 16 16 (Iv.mp w _ _ true) gz.out.drew ?_;refine AW.ro 0 (λW h=>(h.at_ 4).2.1) hl u40 i40 ?_;refine AW.ro 1 (λW h=>(h.at_ 17).2.1) p u40 i40 ?_;refine AW.ro 3 (λW h=>(h.at_ 5).2.1) hk u40 i40 ?_;refine AW.ro 4 (λW h=>(h.at_ 17).2.1) p u40 i40 ?_;refine AW.ro 6 (λW h=>(h.at_ 17).2.1) p u40 i40 ?_;refine AW.ro 9 (λW h=>(h.at_ 13).2.1) Z u40 i40 ?_;refine AW.ro 10 (λW h=>(h.at_ 13).2.1) Z u40 i40 ?_;refine AW.ro 12 (λW h=>(h.at_ 0).2.1) h9 u40 i40 ?_;refine AW.gi 2 (λ_=>HT.1 _) λx1 H=>?_
 refine AW.gi 5 (λ_=>HT.2.1 _) λx2 I=>?_
 refine AW.gi 7 (λ_=>HT.2.2.1 _) λx3 j1=>?_
 refine AW.gi 8 (λ_=>HT.2.2.2.1 _) λx4 lq=>?_
 refine AW.gi 11 (λ_=>HT.2.2.2.2.1 _) λx5 ix=>?_
 refine AW.gi 13 (λ_=>HT.2.2.2.2.2.1 _) λx6 lo=>?_
 refine AW.gi 14 (λ_=>HT.2.2.2.2.2.2 _) λng l4=>?_
 have g6:=mk1 (((((((gz.drew.grow H).grow I).grow j1).grow lq).grow ix).grow lo).grow l4);clear H I j1 lq ix lo l4 gz HT;refine AW.nx 15 (oZ l 132) ?_;refine hG (ng.setCells l 132 (wn R.tau.val)) λos kt=>?_
 have b4:=mk1 (Rp.Ts b3.2.2 (g6.at_ 10) R.tau.val);refine hG ({ p5 with u:=R.tau.val }:Rp) λp6 jp=>?_
 rw[jp.out]at b4;have g4:=mk1 (g6.upd 10 kt b4.2.1);refine AW.fi (us:=wn R.tau.val) io (aM _) i40 (λ_=>⟨b4.1,?_⟩);rw[kt.out];clear g6 b3 kt;refine hG (nv (R.rho*R.x).val) λu8 n4=>?_
 refine hG (nv R.mu.val) λu9 jz=>?_
 have HT:=mk2 (λW=>xR O R.rho R.x W) (λW=>PL O R.al (R.rho*R.x) W);rw[show R.al+R.rho*R.x=R.mu from rfl,n4.out,jz.out,hs.out,ha.out,p.out]at HT;refine Uz ?_;refine AW.beg 6 6 (Iv.mp w _ _ true) g4.out.drew ?_;refine AW.ro 0 (λW h=>(h.at_ 2).2.1) hs u40 i40 ?_;refine AW.ro 1 (λW h=>(h.at_ 3).2.1) ha u40 i40 ?_;refine AW.ro 2 (λW h=>(h.at_ 17).2.1) p u40 i40 ?_;refine AW.gi 3 (λ_=>HT.1 _) λx1 H=>?_
 refine AW.gi 4 (λ_=>HT.2 _) λnp I=>?_
 have fa:=mk1 ((g4.drew.grow H).grow I);clear H I g4 HT;refine AW.nx 5 (oZ l 136) ?_;refine hG (np.setCells l 136 (wn R.mu.val)) λgj kf=>?_
 have k7:=mk1 (Rp.Tu b4.2.2 (fa.at_ 10) R.mu.val);have ez:Hid (({ p6 with m:=R.mu.val }:Rp)=pz):=by
  rw[<-T.out,<-jp.out,<-l2.out,<-g0.out,<-fe.out,<-fn.out,<-fb.out];rfl
 rw[ez.out]at k7;have kn:=mk1 (fa.upd 10 kf k7.2.1);have bg:pz.Ok:=k7.2.2;refine AW.fi (us:=wn R.mu.val) jz (aM _) i40 (λ_=>⟨k7.1,?_⟩);rw[kf.out];clear fa b4 k7 kf;refine hG (U3 pz.l.toArray) λn9 h5=>?_
 refine hG (bB L8) λL9 b7=>?_
 have s9:L9.size=32:=by rw[<-b7.out];exact bE _ _
 refine hG (nv R.w.val) λvw bi=>?_
 have j8:Hid (UH prog 81 #[n9,vl] gj (Ret λe w'=>SP.Only r 0 32 gj w'/\Holds encB w' r 0 L9/\e=vw)):=by
  have h:=NR O pz bg (by rw[<-T.out];exact R.tau.isLt) (by rw[<-T.out];exact R.mu.isLt) (by rw[<-T.out];exact R.t.isLt) r L7 gj (kn.log 14) s7;rw[<-fx.out,show enL (bB L6) pz.u pz.m pz.t=L8 by rw[<-T.out];exact U.l8.symm,mP O L U.w,b7.out,h5.out,hr.out,bi.out]at h;exact h
 refine Uz ?_;refine PW.begin ?_;refine PW.ro (cs:=pz.l) (kn.at_ 10).2.1 h5 uRd (by rw[Rp.len bg];exact iRd) ?_;refine PW.ro (kn.at_ 11).2.1 hr uLg iLg ?_;refine PW.ca j8.out ?_;rintro e lx ⟨hO,hH,he⟩;obtain rfl:=he.symm;have jb:=mk1 (kn.say 14 hO hH);clear j8 hO hH he kn;simp only[UN,Us,Uu,Uv];refine hG (lx.heap.size) λmy f6=>?_
 refine hG (lx.alloc (.cells (RG.z 4).toArray 49)) λo5 dl=>?_
 refine hG (o5.setCells my 0 (wn R.w.val)) λo1 c9=>?_
 have ft:=mk1 (jb.new f6 dl);have o3:=mk1 (ft.put 18 c9);refine PW.al f6 dl ?_;refine PW.st c9 bi (ft.th 18) i40 (aM _) ?_;clear jb ft;refine PW.dn ?_;have Kd:=mk1 o3.out.drew;have gw:=mk1 (H6 O R.n fl n (gGT P) (hGT P) (uGT P) (λi hi=>⟨((nK C L.1 R.n).tl i hi).ok,by show 1<=512;decide⟩) (mR C L.1).ok (by show 1<=512;decide) R.y.val R.w.val R.y.isLt R.w.isLt _ o1.drew Kd.nk (Kd.get 4));rw[M.out,bi.out]at gw;refine Uz ?_;refine AW.beg 10 10 (Iv.mx w _ _ 14 r true) (Kd.out.wk 14) ?_;refine AW.ro 0 (cs:=pz.l) (λW ⟨_,h⟩=>(h.at_ 10).2.1) h5 uRd (by rw[Rp.len bg];exact iRd) ?_;refine AW.ro 1 (λW ⟨_,h⟩=>(h.at_ 11).2.1) hr uLg iLg ?_;refine AW.ro 2 (cs:=[.slice (some ⟨ga,oa,none⟩) R.n ca,.slice (some ⟨gb,ob,none⟩) R.n cb,sZ gc mc cc]) (λW ⟨_,h⟩=>(h.at_ 8).2.1) (Hid.mk' rfl) uGr iGr ?_;refine AW.ro 3 (λW ⟨_,h⟩=>(h.at_ 12).2.1) M u40 i40 ?_;refine AW.ro 4 (λW ⟨_,h⟩=>(h.at_ 18).2.1) bi u40 i40 ?_;refine AW.mv 6 ?_;refine AW.mv 7 ?_;refine AW.ca 5 (λ_=>gw.out) (λe w' h=>h.1) ?_;rintro tv bh ⟨f1,km⟩;simp only[UN,Us,Uu,Uv];have G:=mk1 (Kd.grow f1);refine hG (((aD C k).pst (chF N) ivF u t q t).s) λLx mj=>?_
 have l3:Hid (UH prog 83 #[vl,tv,av,bv] bh (Ret (PhR bh r t Lb Rb Lx Ab Bb))):=by
  obtain⟨Q,E⟩:=G.out.q;have F:∀g,Q g->g≠r:=G.ne E 14;rw[E.out]at km;have h:=Mb C O k L t ht q u (gGT P) (oQ N R.y.val (hGT P)) ((uGT P).map (tmT N R.w.val)) (by rw[n7];exact vE C L.1 _) (by rw[mn];exact MK C k L R _) (by rw[hu];exact(mR C L.1).tm C k R.w) (by show 0<1;decide) (by show 1<=16;decide) Lb Rb mm ms r tv av bv bh (by rw[j6,b7.out];exact G.log 14) (by rw[j6,b7.out];exact s9) (by rw[<-hn];exact km.mono F) (by rw[<-hn,n6];exact SLq.mono (G.uP E 11) F) (by rw[<-hn,mw];exact SLq.mono (G.uP E 12) F);rw[mj.out,<-mg,<-mh,hr.out]at h;exact h
 clear gw f1 km Kd;refine AW.cw 8 (λ_=>l3.out) (λe w' _ h=>⟨_,G.say 14 h.on h.lg rfl rfl⟩) ?_;rintro e nw bo;obtain⟨vL,vR,vA,vB,rfl,tL,tR,eA,eB⟩:=bo.ex;have ig:=mk1 (G.say 14 bo.on bo.lg);have l8:=(G.at_ 1).1;clear l3 bo;simp only[UN,Us,Uu,Uv];have i3:=mk1 (Ox O pz bg (by rw[<-T.out];exact R.tau.isLt) (by rw[<-T.out];exact R.mu.isLt) (by rw[<-T.out];exact R.t.isLt) vL vR vA vB ⟨tL.one.2,tR.one.2,eA.one.2,eB.one.2⟩ nw);rw[h5.out]at i3;refine AW.ca 9 (λ_=>i3.out) (λe w' h=>h.1) ?_;rintro e ju ⟨F,ra,rb,rc,c0,re,rf,bp,rfl,hT⟩;simp only[UN,Us,Uu,Uv];have gq:=mk1 (ig.grow F);have b9:vA.oneCell'=true/\vB.oneCell'=true/\vL.oneCell'=true/\vR.oneCell'=true:=⟨eA.one.2,eB.one.2,tL.one.2,tR.one.2⟩
 have RA:Hid (RgA bh.heap.size t pz Lb Rb Ab Bb (.agg #[r33 ra,r33 rb,r33 rc,r33 c0,r32 re,r32 rf,r32 bp,vL,vR,vA,vB]) ju):=⟨_,_,_,_,_,_,_,_,_,_,_,rfl,hT.mono2 λ_ _ _=>trivial,tL.below F,tR.below F,(eA.keep (Kq.of_below F)).mono2 λ_ _ _=>trivial,(eB.keep (Kq.of_below F)).mono2 λ_ _ _=>trivial⟩
 clear hT tL tR eA eB F i3 ig;refine hG (ju.setCells k8 0 [r33 ra,r33 rb,r33 rc,r33 c0,r32 re,r32 rf,r32 bp,vL,vR,vA,vB]) λoe hz=>?_
 have jx:=mk1 (gq.put 1 hz);have RB:=mk1 (RA.set (us:=[r33 ra,r33 rb,r33 rc,r33 c0,r32 re,r32 rf,r32 bp,vL,vR,vA,vB]) (gq.at_ 1) l8);rw[hz.out]at RB;refine AW.fi (us:=[r33 ra,r33 rb,r33 rc,r33 c0,r32 re,r32 rf,r32 bp,vL,vR,vA,vB]) (Hid.mk' rfl) (by simp only[Ya,Zt,ZK,b9.1,b9.2.1,b9.2.2.1,b9.2.2.2,show ∀g,(r33 g).oneCell'=true from λ_=>rfl,show ∀g,(r32 g).oneCell'=true from λ_=>rfl,yBA]) iAr (λ_=>⟨gq.th 1,?_⟩);rw[hz.out];have KE:=mk2 jx.bl (V1 G.bl.size RB.out);have K8:=jx.at_ 1;refine wp_ret ?_;refine UE (aG 8 28 rfl K8 rfl uAr iAr) rfl ?_;exact⟨_,rfl,KE.1,_,KE.2.1,KE.2.2⟩
def Wd(n t:Nat):Prop:=n=2^t/\3<=t/\t<=6
theorem Wd.hv{n t:Nat}(h:Wd n t)(W:Ur):UH prog 57 #[iZ n] W (rZ W λe w'=>e=.tuple #[iZ t,.bool true]):=by
 obtain⟨rfl,-,k⟩:=h;rw[<-Pu t k];exact Px (2^t) (OT t k) W
theorem Wd.eight{n t:Nat}(h:Wd n t):8<=n:=by
 obtain⟨rfl,k,-⟩:=h;exact VA (n:=2) dC k
theorem NH{n t:Nat}(h:Wd n t)(w:Ur):UH prog 15 #[iZ n] w (rZ w λe w'=>e=.bool true):=by
 have H:=mk1 (h.hv w);have f:(8:Int)<=(n:Int):=by have:=h.eight;omega
 clear h;go_enter func15,ntmps15;go_wp2_with fail
 refine H.mono ?_;rintro e c ⟨d,rfl,k,rfl⟩;have b:=mk1 k;go_wp2;go_ret;exact⟨_,rfl,b.out,rfl⟩
theorem Fh{n t:Nat}(h:Wd n t)(w:Ur):UH prog 17 #[iZ n] w (rZ w λe w'=>e=uZ ((2^n-1:Nat):Int)):=by
 obtain⟨rfl,c,b⟩:=h;have k:t=3\/t=4\/t=5\/t=6:=oM;rcases k with rfl|rfl|rfl|rfl
 all_goals
  go_enter func17,ntmps17;go_wp2;go_ret;exact⟨_,rfl,UR _ _,rfl⟩
omit [NeZero N] in
theorem PO(O:Ord N)(a b:Fin N)(W:Ur):UH prog 131 #[nv a.val,nv b.val] W (rZ W λe w'=>e=nv (a-b).val):=by
 rw[I7];exact Dl O a.val b.val a.isLt b.isLt W
def rgD(n:Nat)(y z:Fin N):Fin N:=(z-z*z)*Md.pr (λ_=>1) (pwF y) n-z*z*z*ofF N (2^n-1)
theorem BZ(a:Bs)(k:a.size=33)(n:Nat)(w:Ur):UH prog 64 #[pvl a,nv n] w (rZ w λe w'=>Sm w.heap.size w' e [(n,a)]):=
 (kU a k n w).mono λ_ _ ⟨_,c,d,_,b,f,hR⟩=>⟨_,c,d,by rw[b];exact Sm.one hR f rfl⟩
theorem Lr(C:Fld P)(O:Ord N)(k:∀r:EC.Pt P,On r->mul N r=none)(hP:IsP N)(hN:18446744073709551616<=N){n t:Nat}(hw:Wd n t)(p:Rp)(ok:p.Ok)(V:Bs)(Vp P1 P2:OnP P)(hV:V=wP Vp)(h1:p.c=wP P1)(h2:p.d=wP P2)(tau tt x y z:Fin N)(hu:p.u=tau.val)(ht:p.t=tt.val)(w:Ur)(X Y:Bs)(hX:X=wP ((aD C k).cm (hPV C) (gPG C) (tt-rgD n y z) tau))(hY:Y=wP ((aD C k).ad ((aD C k).ad ((aD C k).ac (z*z) Vp) ((aD C k).ac x P1)) ((aD C k).ac (x*x) P2))):
 UH prog 122 #[.agg p.l.toArray,pvl V,iZ n,nv x.val,nv y.val,nv z.val] w (rZ w λe w'=>e=.bool (decide (X=Y))):=by
 have hy:n<=64:=by rw[hw.1];exact UC (VA dC hw.2.2) dC
 have sV:V.size=33:=by rw[hV];exact aT _
 obtain⟨vp,hi⟩:=hE (U3 p.l.toArray);obtain⟨vV,G⟩:=hE (pvl V);obtain⟨vx,l⟩:=hE (nv x.val);obtain⟨vy,F⟩:=hE (nv y.val);obtain⟨vz,d⟩:=hE (nv z.val);obtain⟨vq,f⟩:=hE (nv (z*z).val);obtain⟨k6,k3⟩:=hE (w.heap.size);obtain⟨w1,T⟩:=hE (w.alloc (.cells p.l.toArray 137));obtain⟨k7,hz⟩:=hE (w1.heap.size);obtain⟨w2,k2⟩:=hE (w1.alloc (.cells (aA V).toArray 103));obtain⟨k9,k5⟩:=hE (w2.heap.size);obtain⟨w3,U⟩:=hE (w2.alloc (.cells (wn x.val).toArray 49));obtain⟨ki,K⟩:=hE (w3.heap.size);obtain⟨w4,ha⟩:=hE (w3.alloc (.cells (wn y.val).toArray 49));obtain⟨ke,J⟩:=hE (w4.heap.size);obtain⟨w5,kd⟩:=hE (w4.alloc (.cells (wn z.val).toArray 49));have K5:=mk1 (((((Mp.start w).new k3 T).new hz k2).new k5 U).new K ha |>.new J kd);have B1:Hid ((Ve 137 vp).run prog w=.ok (jZ k6) w1):=by rw[<-hi.out,<-T.out,<-k3.out];exact J2 ok w
 have B2:Hid ((Ve 103 vV).run prog w1=.ok (jZ k7) w2):=by rw[<-G.out,<-k2.out,<-hz.out];exact rM sV w1
 have B3:Hid ((Ve 49 vx).run prog w2=.ok (jZ k9) w3):=by rw[<-l.out,<-U.out,<-k5.out];exact boxS _ w2
 have B4:Hid ((Ve 49 vy).run prog w3=.ok (jZ ki) w4):=by rw[<-F.out,<-ha.out,<-K.out];exact boxS _ w3
 have B5:Hid ((Ve 49 vz).run prog w4=.ok (jZ ke) w5):=by rw[<-d.out,<-kd.out,<-J.out];exact boxS _ w4
 rw[hi.out,G.out,l.out,F.out,d.out];go_enter func122,ntmps122;refine Uz ?_;refine PW.begin ?_;refine PW.ns B1.out ?_;refine PW.ns B2.out ?_;refine PW.ns B3.out ?_;refine PW.ns B4.out ?_;refine PW.ns B5.out ?_;refine PW.va (.bool false) ?_;refine PW.dn ?_;clear B1 B2 B3 B4 B5;have HQ:=mk1 (xR O z z w5);rw[d.out,f.out]at HQ;refine Uz ?_;refine PW.begin ?_;refine PW.ro (K5.at_ 4).2.1 d u40 i40 ?_;refine PW.ro (K5.at_ 4).2.1 d u40 i40 ?_;refine PW.gi HQ.out λw6 m=>?_
 have K6:=mk1 (K5.grow m);obtain⟨kj,L⟩:=hE (w6.heap.size);obtain⟨w7,hc⟩:=hE (w6.alloc (.cells (RG.z 4).toArray 49));obtain⟨w8,k0⟩:=hE (w7.setCells kj 0 (wn (z*z).val));have K7:=mk1 (K6.new L hc);have K8:=mk1 (K7.put 5 k0);refine PW.al L hc ?_;refine PW.st k0 f (K7.th 5) i40 (aM _) ?_;clear K5 K6 K7 HQ m;refine PW.dn ?_;obtain⟨v1,hp⟩:=hE (nv 1);have HO:=mk1 (zW 1 dC w8);rw[hp.out]at HO;refine Uz ?_;refine PW.begin ?_;refine PW.gi HO.out λw9 hs=>?_
 have K9:=mk1 (K8.grow hs);obtain⟨kb,hm⟩:=hE (w9.heap.size);obtain⟨wA,hj⟩:=hE (w9.alloc (.cells (wn 1).toArray 49));have h4:Hid ((Vy 124 1 #[(0,v1)]).run prog w9=.ok (sZ kb 1 1) wA):=by rw[<-hp.out,<-hj.out,<-hm.out];exact SG 1 w9
 have FA:=aN hm hj;refine PW.ns h4.out ?_;refine PW.mv ?_;refine PW.ca (IC 1 kb n oM wA FA.2) ?_;rintro ov wB ⟨k4,D⟩;simp only[UN,Us,Uu,Uv];replace D:=D.fin (λ_=>(1:Fin N)) (λi _=>(US hP.1).symm);have A:=mk1 ((K9.grow FA.1).gets k4 (pqS ov n λi=>((λ_=>(1:Fin N)) i).val) D);clear K8 K9 HO hs D k4 FA h4;refine PW.va ov ?_;refine PW.dn ?_;obtain⟨a1,kf⟩:=hE (nv (z-z*z).val);obtain⟨a2,hl⟩:=hE (nv (Md.pr (λ_=>1) (pwF y) n).val);obtain⟨a3,km⟩:=hE (nv ((z-z*z)*Md.pr (λ_=>1) (pwF y) n).val);obtain⟨a4,kg⟩:=hE (nv (z*z*z).val);obtain⟨a5,he⟩:=hE (nv (ofF N (2^n-1)).val);obtain⟨a6,kk⟩:=hE (nv (z*z*z*ofF N (2^n-1)).val);obtain⟨a7,E⟩:=hE (nv (rgD n y z).val);have S:=mk5 (λW=>PO O z (z*z) W) (λW=>xR O (z-z*z) (Md.pr (λ_=>1) (pwF y) n) W) (λW=>xR O (z*z) z W) (λW=>xR O (z*z*z) (ofF N (2^n-1)) W) (λW=>PO O ((z-z*z)*Md.pr (λ_=>1) (pwF y) n) (z*z*z*ofF N (2^n-1)) W);rw[show(z-z*z)*Md.pr (λ_=>1) (pwF y) n-z*z*z*ofF N (2^n-1)=rgD n y z from rfl,kf.out,hl.out,km.out,kg.out,he.out,kk.out,E.out,d.out,f.out]at S;have l2:2^n-1<18446744073709551616:=by
  have:=VA (n:=2) dC hy;have:=XI (n:=n) (show 0<2 by decide);omega
 obtain⟨gi,h8⟩:=hE (2^n-1);have h7:Hid (∀W,UH prog 70 #[uZ gi] W (rZ W λe w'=>e=a5)):=λW=>by
  rw[<-he.out,<-h8.out,show(ofF N (2^n-1)).val=2^n-1 from US oM];exact zW _ l2 W
 have hr:Hid (∀W,UH prog 17 #[iZ n] W (rZ W λe w'=>e=uZ gi)):=λW=>by
  rw[<-h8.out];exact Fh hw W
 obtain⟨Q,hQ⟩:=A.out.q;refine Uz ?_;refine(gwL [pE vz,pE vq,pE a1,pE ov,pE vy,pE (iZ n),RG.pS Q n (λi=>(pwF y i).val),pE a2,pE a3,pE vq,pE vz,pE a4,pE (iZ n),pE (uZ gi),pE a5,pE a6,pE a7,RG.pN wB.heap.size (RG.z 4)] (λW=>kZ wB W) (λW W' hb h=>h.trans (hb.mono h.size))).tail2 18 kR kR kR ⟨
  gLo (cs:=wn z.val) 11 (λW c=>((A.grow c).at_ 4).2.1) u40 i40 (hR:=λ_=>d.out),
  gLo (cs:=wn (z*z).val) 13 (λW c=>((A.grow c).at_ 5).2.1) u40 i40 (hR:=λ_=>f.out),
  gC2 0 24 1 25 S.1,
  gO 14 ov,
  gLo (cs:=wn y.val) 10 (λW c=>((A.grow c).at_ 3).2.1) u40 i40 (hR:=λ_=>F.out),
  gO 2 (iZ n),
  eD 4 28 5 29 74 (λx y=>#[x,y]) (λa u W j o c=>by
   obtain rfl:a=vy:=j;obtain rfl:u=iZ n:=o;rw[<-F.out];exact(Ny O y.val y.isLt n oM W).mono λe W' ⟨v,h1,h2,q⟩=>⟨v,h1,h2,(q.mono λg B=>(A.grow c).nkq hQ g B).fin (pwF y) λi _=>lV hP.1 y i⟩),
  eD 3 27 6 30 78 (λx y=>#[x,y]) (λa u W j o c=>by
   obtain rfl:a=ov:=j;have h:=Bc O n oM (λi=>((λ_=>(1:Fin N)) i).val) (λi=>(pwF y i).val) (λi _=>(1:Fin N).isLt) (λi _=>(pwF y i).isLt) a u W ((A.grow c).uP hQ 0) o;rw[kE,hl.out]at h;exact h),
  gC2 2 26 7 31 S.2.1,
  gLo (cs:=wn (z*z).val) 13 (λW c=>((A.grow c).at_ 5).2.1) u40 i40 (hR:=λ_=>f.out),
  gLo (cs:=wn z.val) 11 (λW c=>((A.grow c).at_ 4).2.1) u40 i40 (hR:=λ_=>d.out),
  gC2 9 33 10 34 S.2.2.1,
  gO 2 (iZ n),
  oW 12 36 17 (λx=>#[x]) (λa W j c=>by
   obtain rfl:a=iZ n:=j;exact hr W),
  oW 13 37 70 (λx=>#[x]) (λa W j c=>by
   obtain rfl:a=uZ gi:=j;exact h7 W),
  gC2 11 35 14 38 S.2.2.2.1,
  gC2 8 32 15 39 S.2.2.2.2,
  xP (RG.z 4) 49 (λW W' h c=>⟨_,rfl,c.size,h⟩),yCl⟩ ⟨rfl,rfl,rfl,Uw _,λ_ _=>rfl⟩ ?_
 intro Z wC hR c;have kc:Z 16=a7:=hR 16 dC;obtain⟨kl,hk,h5,h0⟩:=hR 17 dC;dsimp only[bU,VK,Xl,Xm];simp only[UN,Us,Uu,Uv];rw[kc,hk];have KC:=mk1 (A.add c h0 h5);obtain⟨wD,k1⟩:=hE (wC.setCells kl 0 (wn (rgD n y z).val));have KD:=mk1 (KC.put 6 k1);refine PW.st k1 E (KC.th 6) i40 (aM _) ?_;clear A KC hR c h0 h5 kc hk S h7 hr hQ;refine PW.dn ?_;have tV:Tl N [((z*z).val,V)] ((aD C k).ac (z*z) Vp):=by rw[hV];exact Tl.pt C k (z*z) Vp
 have t1:Tl N [(x.val,p.c)] ((aD C k).ac x P1):=by rw[h1];exact Tl.pt C k x P1
 have t2:Tl N [((x*x).val,p.d)] ((aD C k).ac (x*x) P2):=by rw[h2];exact Tl.pt C k (x*x) P2
 have t3:=tV.app C k t1;have t4:=t3.app C k t2;obtain⟨vc,k8⟩:=hE (pvl p.c);obtain⟨vd,h6⟩:=hE (pvl p.d);obtain⟨kr,ka⟩:=hE (nv (x*x).val);obtain⟨vY,hn⟩:=hE (pvl Y);have B:=mk7 (λW=>BZ V sV (z*z).val W) (λW=>BZ p.c ok.c x.val W) (λW=>BZ p.d ok.d (x*x).val W) (λW=>xR O x x W)
  (λ(W:Ur) (s u:Ut) (a:Sm 0 W s [((z*z).val,V)]) (b:Sm 0 W u [(x.val,p.c)])=>cO 0 s u _ _ (by simp) (by simp) (by simp) tV.ok.sz t1.ok.sz W (UX a) (UX b))
  (λ(W:Ur) (s u:Ut) (a:Sm 0 W s ([((z*z).val,V)]++[(x.val,p.c)])) (b:Sm 0 W u [((x*x).val,p.d)])=>cO 0 s u _ _ (by simp) (by simp) (by simp) t3.ok.sz t2.ok.sz W (UX a) (UX b))
  (λ(W:Ur) (s:Ut) (a:Sm 0 W s ([((z*z).val,V)]++[(x.val,p.c)]++[((x*x).val,p.d)]))=>(by rw[hY];exact t4.point C O k (by simp) (by simp) a:UH prog 67 #[s] W (rZ W λe w'=>e=pvl Y)))
 rw[G.out,k8.out,h6.out,l.out,f.out,ka.out,hn.out]at B;have ip:∀ {b:Bs},b.size=33->(prog.info? 103).map (·.size)=some (aA b).length:=λh=>by rw[aB h];exact iCP
 refine Uz ?_;refine AW.beg 15 15 (Iv.mp w _ _ false) KD.out.drew ?_;refine AW.ro 0 (λW h=>(h.at_ 1).2.1) G uCP (ip sV) ?_;refine AW.ro 1 (λW h=>(h.at_ 5).2.1) f u40 i40 ?_;refine AW.va 3 (oZ k6 66) ?_;refine AW.ro 4 (λW h=>(Rp.at7 ok (h.at_ 0).2.1).2.2.1) k8 uCP (ip ok.c) ?_;refine AW.ro 5 (λW h=>(h.at_ 2).2.1) l u40 i40 ?_;refine AW.va 8 (oZ k6 99) ?_;refine AW.ro 9 (λW h=>(Rp.at7 ok (h.at_ 0).2.1).2.2.2.1) h6 uCP (ip ok.d) ?_;refine AW.ro 10 (λW h=>(h.at_ 2).2.1) l u40 i40 ?_;refine AW.ro 11 (λW h=>(h.at_ 2).2.1) l u40 i40 ?_;refine AW.ca 2 (λ_=>B.1 _) (λe w' h=>h.1) ?_;rintro s1 x1 ⟨q,q1⟩;simp only[UN,Us,Uu,Uv];refine AW.ca 6 (λ_=>B.2.1 _) (λe w' h=>h.1) ?_;rintro s2 x2 ⟨j,q2⟩;simp only[UN,Us,Uu,Uv];refine AW.ca 7 (λ_=>B.2.2.2.2.1 _ _ _ (q1.q.keep (Kq.of_below j)).sm q2.q.sm) (λe w' h=>h.1) ?_;rintro s3 x3 ⟨o,q3⟩;simp only[UN,Us,Uu,Uv];refine AW.gi 12 (λ_=>B.2.2.2.1 _) λx4 M=>?_
 refine AW.ca 13 (λ_=>B.2.2.1 _) (λe w' h=>h.1) ?_;rintro s5 x5 ⟨R,q5⟩;simp only[UN,Us,Uu,Uv];refine AW.ca 14 (λ_=>B.2.2.2.2.2.1 _ _ _ ((q3.q.keep (Kq.of_below M)).keep (Kq.of_below R)).sm q5.q.sm) (λe w' h=>h.1) ?_;rintro s6 x6 ⟨m,q6⟩;simp only[UN,Us,Uu,Uv];have KE:=mk1 (((((KD.drew.grow q).grow j).grow o).grow M).grow R |>.gets m (pqM s6 _) q6.q);clear q j o M R m q1 q2 q3 q5 q6 KD;refine AW.nx 15 s6 ?_;refine AW.dn λ_=>?_
 obtain⟨kp,I⟩:=hE (nv tt.val);obtain⟨ko,H⟩:=hE (nv tau.val);obtain⟨vm,kn⟩:=hE (nv (tt-rgD n y z).val);obtain⟨vX,hq⟩:=hE (pvl X);have HM:=mk2 (λW=>PO O tt (rgD n y z) W) (λW=>oL (P:=P) C O (tt-rgD n y z).isLt tau.isLt W);rw[yB C k (tt-rgD n y z) tau,show wP ((aD C k).cm (hPV C) (gPG C) (tt-rgD n y z) tau)=X from hX.symm,I.out,H.out,kn.out,hq.out,E.out]at HM;have sX:X.size=33:=by rw[hX];exact aT _
 have sY:Y.size=33:=by rw[hY];exact aT _
 have h9:Hid (∀W:Ur,(eqGuard .eql 103 (.tmp 62) (.tmp 64) vX vY >>= λ_=>binOp .eql 103 vX vY).run prog W=.ok (.bool (decide (X=Y))) W):=λW=>by
  rw[<-hq.out,<-hn.out,UV,show(eqGuard .eql 103 (.tmp 62) (.tmp 64) (pvl X) (pvl Y)).run prog W=.ok () W by kernel_rfl];exact NQ sX sY W
 refine Uz ?_;refine AW.beg 10 10 (Iv.mp w _ _ false) KE.out.drew ?_;refine AW.va 0 (oZ k6 140) ?_;refine AW.ro 1 (cs:=wn tt.val) (λW h=>by rw[<-ht];exact(Rp.at7 ok (h.at_ 0).2.1).2.2.2.2.2.2) I u40 i40 ?_;refine AW.ro 2 (λW h=>(h.at_ 6).2.1) E u40 i40 ?_;refine AW.va 4 (oZ k6 132) ?_;refine AW.ro 5 (cs:=wn tau.val) (λW h=>by rw[<-hu];exact(Rp.at7 ok (h.at_ 0).2.1).2.2.2.2.1) H u40 i40 ?_;refine AW.mv 7 ?_;refine AW.gi 3 (λ_=>HM.1 _) λx1 q=>?_
 refine AW.gi 6 (λ_=>HM.2 _) λx2 j=>?_
 refine AW.gi 8 (λh=>B.2.2.2.2.2.2 _ _ (SmQ.sm (h.get 1))) λx3 o=>?_
 have KF:=mk1 (((KE.drew.grow q).grow j).grow o);refine AW.ns 9 (h9 x3) (UR _ _) ?_;refine AW.nx 10 (.bool (decide (X=Y))) ?_;refine AW.dn λ_=>?_
 clear q j o KE B HM h9;obtain⟨bb,kh⟩:=hE (decide (X=Y));rw[kh.out];go_wp2;go_ret;exact⟨_,rfl,KF.bl,rfl⟩
def rgS(y z:Fin N)(i:Nat):Fin N:=z*pwF y i+z*z*pwF (ofF N 2) i
theorem LR(k:IsP N)(b:2<N)(y z:Fin N)(i:Nat):sPl N (sTi N z.val (pwN N y.val i)) (sTi N (sTi N z.val z.val) (pwN N 2 i))=(rgS y z i).val:=by
 show _=(z*pwF y i+z*z*pwF (ofF N 2) i).val;rw[mA,fL,fL,fL,<-lV k.1,<-lV k.1,show(ofF N 2).val=2 from US b]
theorem RS(C:Fld P)(O:Ord N)(k:∀r:EC.Pt P,On r->mul N r=none)(hP:IsP N)(hN:18446744073709551616<=N){n:Nat}(hs:0<n)(hw:n<=64)(p:Rp)(ok:p.Ok)(PA PS:OnP P)(hA:p.a=wP PA)(hS:p.s=wP PS)(mu tt x y z:Fin N)(hm:p.m=mu.val)(ht:p.t=tt.val)(G H:Nat->List (Nat × Bs))(U:List (Nat × Bs))(g h:Nat->OnP P)(u:OnP P)(hG:Gd N n 1 G g)(hH:Gd N n 1 H h)(hU:Tl N U u)(hl:U.length=1):
 ∃l,Tl N l ((aD C k).ad ((aD C k).ad ((aD C k).ad ((aD C k).ad PA ((aD C k).ac x PS)) ((aD C k).ac (-1) ((aD C k).ac mu (gPG C)))) ((aD C k).ad ((aD C k).dt (λ_=>-z) g n) ((aD C k).dt (rgS y z) h n))) ((aD C k).ac tt u))/\(0<l.length/\l.length<=150) /\
  ∀(Q:Nat->Prop) (T:Ut) (w:Ur),GRq Q w T n G H U->UH prog 124 #[.agg p.l.toArray,T,iZ n,nv x.val,nv y.val,nv z.val] w (rZ w λe w'=>Sm w.heap.size w' e l):=by
 obtain⟨Gb,S⟩:=hE (wr (gG P));have sG:Gb.size=33:=by rw[<-S.out];exact aT _
 have tA:Tl N [(1,p.a)] PA:=by rw[hA];exact Tl.one C hP.1 PA
 have tS:Tl N [(x.val,p.s)] ((aD C k).ac x PS):=by rw[hS];exact Tl.pt C k x PS
 have tG:Tl N [(mu.val,Gb)] ((aD C k).ac mu (gPG C)):=by rw[<-S.out];exact Tl.pt C k mu (gPG C)
 have t1:=tA.app C k tS;have tM:=tG.tm C k (-1);rw[Rr hP.1]at tM;have t2:=t1.app C k tM;have tL:=(hG.cmb C k (λ_=>-z)).1.app C k (hH.cmb C k (rgS y z)).1;have lL:(dH N (λ_=>(-z).val) G n++dH N (λi=>(rgS y z i).val) H n).length=n+n:=by rw[UA,(hG.cmb C k (λ_=>-z)).2,(hH.cmb C k (rgS y z)).2,Xi]
 have tU:=hU.tm C k tt;have lU:(U.map (tmT N tt.val)).length=1:=by rw[UQ,hl]
 have t3:=t2.app C k tL;have t4:=t3.app C k tU;have hb:=sN hs (by decide:0<1) oM hG hH hU oM oM;refine⟨_,t4,⟨by simp,by simp only[UA,UQ,lL,lU,List.length_cons,List.length_nil]at *;omega⟩,λQ T w h0=>?_⟩;obtain⟨lb,K⟩:=hE (dH N (λ_=>(-z).val) G n++dH N (λi=>(rgS y z i).val) H n);obtain⟨lu,J⟩:=hE (U.map (tmT N tt.val));obtain⟨R,t⟩:=hE ([(1,p.a)]++[(x.val,p.s)]++[(mu.val,Gb)].map (tmT N (sMi N 0 1)));rw[t.out,K.out,J.out];have n2:R.length=3:=by rw[<-t.out];rfl
 rw[K.out]at tL lL;rw[J.out]at tU lU;rw[t.out]at t2;have h6:=t2.app C k tL;have h2:2<N:=oM;obtain⟨vp,h5⟩:=hE (U3 p.l.toArray);obtain⟨vx,I⟩:=hE (nv x.val);obtain⟨vy,D⟩:=hE (nv y.val);obtain⟨vz,A⟩:=hE (nv z.val);obtain⟨vm,hj⟩:=hE (nv mu.val);obtain⟨vt,ha⟩:=hE (nv tt.val);obtain⟨vG,hq⟩:=hE (pvl Gb);obtain⟨va,h7⟩:=hE (pvl p.a);obtain⟨vs,h8⟩:=hE (pvl p.s);have B:=mk8 (λW=>AS p.a ok.a W) (λW=>BZ p.s ok.s x.val W) (λW=>BZ Gb sG mu.val W) (λW=>NP (P:=P) C W)
  (λ(W:Ur) (s u:Ut) (a:Sm 0 W s [(1,p.a)]) (b:Sm 0 W u [(x.val,p.s)])=>cO 0 s u _ _ (by simp) (by simp) (by simp) tA.ok.sz tS.ok.sz W (UX a) (UX b))
  (λ(W:Ur) (s u:Ut) (a:Sm 0 W s ([(1,p.a)]++[(x.val,p.s)])) (b:Sm 0 W u [(mu.val,Gb)])=>wH O 0 s u _ _ (by simp) (by simp) (by simp) t1.ok.sz tG.ok.sz tG.ok.lt W (Wy _) a b)
  (λ(W:Ur) (s u:Ut) (a:Sm 0 W s R) (b:Sm 0 W u lb)=>cO 0 s u R lb (by rw[UA];omega) oM oM t2.ok.sz tL.ok.sz W (UX a) (UX b))
  (λ(W:Ur) (s u:Ut) (a:Sm 0 W s (R++lb)) (b:Sm 0 W u lu)=>cO 0 s u (R++lb) lu (by simp only[UA];omega) (by rw[UA];omega) oM h6.ok.sz tU.ok.sz W (UX a) (UX b))
 rw[t.out,S.out,hq.out,h7.out,h8.out,I.out,hj.out]at B;have hp:Hid (∀(Q:Nat->Prop) (W:Ur) (v a b:Ut),GRq Q W v n G H U->SLq Q W a n (λ_=>(-z).val)->SLq Q W b n (λi=>(rgS y z i).val)->UH prog 66 #[v,a,b] W (rZ W λe w'=>Sm W.heap.size w' e lb)):=λQ W v a b g1 g2 g3=>by
  rw[<-K.out];exact xJ O n 1 G H U hb _ _ (λi _=>(-z).isLt) (λi _=>(rgS y z i).isLt) v a b W g1 g2 g3
 have hu:Hid (∀(W:Ur) (v:Ut),Sm 0 W v U->UH prog 164 #[v,vt] W (rZ W λe w'=>Sm W.heap.size w' e lu)):=λW v a=>by
  rw[<-J.out,<-ha.out];exact eG O tt.isLt 0 v U oM hU.ok.szm hU.ok.lt W a
 have Z:=mk1 (λW=>EE O h2 y.val z.val y.isLt z.isLt n oM W);rw[D.out,A.out]at Z;clear K J t tA tS tG t1 tM t2 tL tU t3 t4 h6 hb;obtain⟨q1,q2,q3,rfl,-,-,-⟩:=h0.ex;obtain⟨k6,he⟩:=hE (w.heap.size);obtain⟨w1,X⟩:=hE (w.alloc (.cells p.l.toArray 137));obtain⟨k7,h9⟩:=hE (w1.heap.size);obtain⟨w2,hc⟩:=hE (w1.alloc (.cells [q1,q2,q3].toArray 133));obtain⟨k9,hi⟩:=hE (w2.heap.size);obtain⟨w3,Y⟩:=hE (w2.alloc (.cells (wn x.val).toArray 49));obtain⟨hr,M⟩:=hE (w3.heap.size);obtain⟨w4,h1⟩:=hE (w3.alloc (.cells (wn y.val).toArray 49));obtain⟨hn,L⟩:=hE (w4.heap.size);obtain⟨w5,hk⟩:=hE (w4.alloc (.cells (wn z.val).toArray 49));have K0:=(Mp.start w).has (pqG (.agg #[q1,q2,q3]) n G H U) (h0.mono2 λg _ _ e=>by cases e);have K5:=mk1 ((((K0.new he X).new h9 hc).new hi Y).new M h1 |>.new L hk);obtain⟨T,m⟩:=hE (U3 #[q1,q2,q3]);have B1:Hid ((Ve 137 vp).run prog w=.ok (jZ k6) w1):=by rw[<-h5.out,<-X.out,<-he.out];exact J2 ok w
 have B2:Hid ((Ve 133 T).run prog w1=.ok (jZ k7) w2):=by rw[<-m.out,<-hc.out,<-h9.out];exact CJ _ _ _ w1
 have B3:Hid ((Ve 49 vx).run prog w2=.ok (jZ k9) w3):=by rw[<-I.out,<-Y.out,<-hi.out];exact boxS _ w2
 have B4:Hid ((Ve 49 vy).run prog w3=.ok (jZ hr) w4):=by rw[<-D.out,<-h1.out,<-M.out];exact boxS _ w3
 have B5:Hid ((Ve 49 vz).run prog w4=.ok (jZ hn) w5):=by rw[<-A.out,<-hk.out,<-L.out];exact boxS _ w4
 rw[h5.out,m.out,I.out,D.out,A.out];rw[m.out]at K5;have ip:∀ {b:Bs},b.size=33->(prog.info? 103).map (·.size)=some (aA b).length:=λh=>by rw[aB h];exact iCP
 clear K0 h0;go_enter func124,ntmps124;refine Uz ?_;refine PW.begin ?_;refine PW.ns B1.out ?_;refine PW.ns B2.out ?_;refine PW.ns B3.out ?_;refine PW.ns B4.out ?_;refine PW.ns B5.out ?_;refine PW.va (.slice none 0 0) ?_;refine PW.dn ?_;clear B1 B2 B3 B4 B5;refine Uz ?_;refine AW.beg 13 13 (Iv.mp w _ _ false) K5.out.drew ?_;refine AW.va 0 (jZ k6) ?_;refine AW.ro 1 (λW h=>(Rp.at7 ok (h.at_ 0).2.1).1) h7 uCP (ip ok.a) ?_;refine AW.va 3 (oZ k6 33) ?_;refine AW.ro 4 (λW h=>(Rp.at7 ok (h.at_ 0).2.1).2.1) h8 uCP (ip ok.s) ?_;refine AW.ro 5 (λW h=>(h.at_ 2).2.1) I u40 i40 ?_;refine AW.va 9 (oZ k6 136) ?_;refine AW.ro 10 (cs:=wn mu.val) (λW h=>by rw[<-hm];exact(Rp.at7 ok (h.at_ 0).2.1).2.2.2.2.2.1) hj u40 i40 ?_;refine AW.ca 2 (λ_=>B.1 _) (λe w' h=>h.1) ?_;rintro s1 x1 ⟨q,e1⟩;simp only[UN,Us,Uu,Uv];refine AW.ca 6 (λ_=>B.2.1 _) (λe w' h=>h.1) ?_;rintro s2 x2 ⟨f,e2⟩;simp only[UN,Us,Uu,Uv];refine AW.ca 7 (λ_=>B.2.2.2.2.1 _ _ _ (e1.q.keep (Kq.of_below f)).sm e2.q.sm) (λe w' h=>h.1) ?_;rintro s3 x3 ⟨o,e3⟩;simp only[UN,Us,Uu,Uv];refine AW.gi 8 (λ_=>B.2.2.2.1 _) λx4 d=>?_
 refine AW.ca 11 (λ_=>B.2.2.1 _) (λe w' h=>h.1) ?_;rintro s5 x5 ⟨j,e5⟩;simp only[UN,Us,Uu,Uv];refine AW.ca 12 (λ_=>B.2.2.2.2.2.1 _ _ _ ((e3.q.keep (Kq.of_below d)).keep (Kq.of_below j)).sm e5.q.sm) (λe w' h=>h.1) ?_;rintro s6 x6 ⟨h4,e6⟩;simp only[UN,Us,Uu,Uv];have KE:=mk1 (((((K5.drew.grow q).grow f).grow o).grow d).grow j |>.gets h4 (pqM s6 R) e6.q);clear q f o d j h4 e1 e2 e3 e5 e6 K5;refine AW.nx 13 s6 ?_;refine AW.dn λ_=>?_
 refine Uz ?_;refine AW.beg 16 16 (Iv.mp w _ _ false) KE.out.drew ?_;refine AW.mv 0 ?_;refine AW.ro 1 (λW h=>(h.at_ 1).2.1) m uGr iGr ?_;refine AW.ro 2 (λW h=>(h.at_ 3).2.1) D u40 i40 ?_;refine AW.ro 3 (λW h=>(h.at_ 4).2.1) A u40 i40 ?_;refine AW.mv 4 ?_;refine AW.va 10 (oZ k7 2) ?_;refine AW.ce 11 AB (λW h=>(h.at_ 1).2.1 2 _ rfl) ?_;refine AW.va 12 (oZ k6 140) ?_;refine AW.ro 13 (cs:=wn tt.val) (λW h=>by rw[<-ht];exact(Rp.at7 ok (h.at_ 0).2.1).2.2.2.2.2.2) ha u40 i40 ?_;refine AW.ca 5 (λ_=>Z _) (λe w' h=>h.1) ?_;rintro e y1 ⟨q,ls,rs,rfl,E,F⟩;simp only[UN,Us,Uu,Uv];replace E:=E.fin (λ_=>-z) (λi _=>(I3 z).symm);replace F:=F.fin (rgS y z) (λi _=>LR hP h2 y z i);have V:=mk1 ((KE.drew.gets q (pqS ls n λ_=>(-z).val) E).has (pqS rs n λi=>(rgS y z i).val) (F.mono λg hg=>KE.drew.nk g hg));clear E F q;refine AW.va 6 ls ?_;refine AW.va 7 rs ?_;refine AW.ca 8 (λ_=>hp _ _ _ _ _ (V.get 0) (V.get 2) (V.get 3)) (λe w' h=>h.1) ?_;rintro s2 y2 ⟨f,e2⟩;simp only[UN,Us,Uu,Uv];refine AW.ca 9 (λ_=>B.2.2.2.2.2.2.1 _ _ _ (SmQ.sm ((V.grow f).get 1)) e2.q.sm) (λe w' h=>h.1) ?_;rintro s3 y3 ⟨o,e3⟩;simp only[UN,Us,Uu,Uv];have KG:=mk1 ((V.grow f).grow o);refine AW.ca 14 (λ_=>hu _ _ (by
  have hh:GRq _ y3 T n G H U:=KG.get 0;rw[<-m.out]at hh;obtain⟨a,b,c,e,-,-,h3⟩:=hh.ex;cases e
  exact h3.sm)) (λe w' h=>h.1) ?_
 rintro s4 y4 ⟨d,e4⟩;simp only[UN,Us,Uu,Uv];refine AW.ca 15 (λ_=>B.2.2.2.2.2.2.2 _ _ _ (e3.q.keep (Kq.of_below d)).sm e4.q.sm) (λe w' h=>h.1) ?_;rintro s5 y5 ⟨j,e5⟩;simp only[UN,Us,Uu,Uv];have KH:=mk1 ((KG.grow d).grow j);have E5:Hid (Sm w.heap.size y5 s5 (R++(lb++lu))):=by
  rw[<-List.append_assoc];exact e5.q.mono λg hg=>UC (KG.grow d).bl.size hg
 clear f o d j e2 e3 e4 e5 V KG KE;refine AW.nx 16 s5 ?_;refine AW.dn λ_=>?_
 go_wp2;go_ret;exact⟨_,rfl,KH.bl,E5.out⟩
end
namespace RG
variable {P:VD}{ops:Array Vk}{Q:Yo->Act->Ur->Prop}{w:Ur}{a0:Act}{G:Gw}{S:Ur->Ur->Prop}{B1:Ur->Prop}{m k:Nat}{o:Vk}
def Gw.lk(G:Gw)(m:Nat)(S:Ur->Ur->Prop)(k:Ur->Prop):Flow:=⟨G.R,λb=>if b=0 then G.B else k,λi w w'=>(i=m/\S w w')\/kZ w w',λ_=>[],λb=>if b=0 then [] else [m]⟩
theorem DK(h:bF P Q G.flow ops a0 k o):bF P Q (G.lk m S B1) ops a0 k o:=λa w K f e c d=>h a w K f e (λb _=>c 0 rfl) λv w' hE hR=>d v w' (UX hE) hR
theorem TR(h:∀(a:Act) (w:Ur),PreG G ops a0 m o a w->B1 w->∃(k:List (WC × Ut)) (f:Xq) (args:Array Ut),AllE a k/\(dA (k.map (·.1)) o,(U5 (evo (evl k)) o).run P w)=(true,.ok (.enter f args) w)/\UH P f args w (Ret λe w'=>S w w'/\G.R m e w'))(r:okK ops m [m]=true:=by kernel_rfl):bF P Q (G.lk m S B1) ops a0 m o:=by
 intro a w K t s c i;obtain⟨k,f,args,p,b,g⟩:=h a w ⟨λj d l hd=>t j d l rfl hd,s,c 0 rfl⟩ (c 1 r);simp only[V6.injEq]at b;unfold VT;rw[iU (evl k) (k.map (·.1)) b.1 p.ev,b.2,WY];refine g.mono ?_;rintro e w' ⟨v,rfl,q,n⟩;exact i _ _ (U4 ⟨rfl,q⟩) n
theorem Gw.tailL{id:Nat}(G:Gw)(m:Nat)(S:Ur->Ur->Prop)(c:Ur->Prop)(n:Nat)(q:∀j v w w',j≠m->S w w'->G.R j v w->G.R j v w')(s:∀w w',S w w'->G.B w->G.B w')(g:∀w w',kZ w w'->c w->c w')(p:(decide (n<ops.size) && mG ops n)=true)(x:P.follows .mixedOrders=true)(u:Be ops a0.tmps.size=true)(h:iK P Q (G.lk m S c) ops a0 0 (ops.toList.take n))(k:G.B w.drew)(l:c w.drew)
 (y:∀(V:Nat->Ut) (w':Ur),(∀i,i<n->G.R i (V i) w')->G.B w'->wpList P ops Q (ops.toList.drop n) (bU V (ops.toList.take n) 0 a0) w'):(V4 id ops true).wp P Q a0 w:=by
 rw[UL,decide_eq_true_eq]at p;refine qF (G.lk m S c) n p.1 p.2 x ⟨u,tB h,λi j _ _ o _ _ v w w' hE hR=>?_,λi b _ d w w' hE k=>?_⟩ (λb=>?_) λV w' a z=>y V w' (λi f=>a i f rfl) (z 0 rfl)
 ·rcases hE with⟨f,r⟩|hE
  ·exact q j v w w' (λe=>o (f.trans e.symm)) r hR
  ·exact G.sR j v w w' hE hR
 ·unfold Gw.lk at d k⊢;dsimp only at d k⊢;by_cases t:b=0
  ·rw[yCj t]at k⊢;rcases hE with⟨-,r⟩|hE
   ·exact s w w' r k
   ·exact G.sB w w' hE k
  ·rw[yCk t]at k d⊢;rcases hE with⟨f,-⟩|hE
   ·rw[f]at d;simp at d
   ·exact g w w' hE k
 ·unfold Gw.lk;dsimp only;split
  ·exact k
  ·exact l
end RG
section
open SPA
def pX(b:Nat)(cs:List Ut):S1:=⟨λv w=>∃k,v=jZ k/\b<=k/\Row w k cs/\∀i x,w.cell? ⟨k,i,none⟩=some x->x∈cs,λ_ w w' d ⟨k,g,f,c,e⟩=>⟨k,g,f,c.below d,λi x hx=>e i x (by rw[<-UW (a:=⟨k,i,none⟩) (d.block k c.1)];exact hx)⟩⟩
theorem Mk{b r:Nat}{cs:List Ut}{v:Ut}{W W':Ur}(d:SP.Only r 0 32 W W')(l:r<b)(h:(pX b cs).p v W):(pX b cs).p v W':=by
 obtain⟨k,j,g,c,f⟩:=h;have e:=d.block k c.1 oM;exact⟨k,j,g,aV c d.size e,λi x hx=>f i x (by rw[<-UW (a:=⟨k,i,none⟩) e];exact hx)⟩
theorem RX{P:VD}{c:Array Vk}{Q:Yo->Act->Ur->Prop}{a0:Act}{G:Gw}{k:Nat}{o:Vk}(b:Nat)(cs:List Ut)(T:U8)(e:∀W,G.B W->b<=W.heap.size)(hR:∀v W,(pX b cs).p v W->G.R k v W)(d:∀W,(dA [] o,(U5 (evo (evl [])) o).run P W)=(true,.ok (.value (jZ W.heap.size)) (W.alloc (.cells cs.toArray T))):=by intro _;kernel_rfl):bF P Q G.flow c a0 k o:=
 bN λa W f=>⟨[],_,_,trivial,d W,aC W _,hR _ _ ⟨_,rfl,e W f.b,aE W cs T,λi x hx=>by
  rw[World.cell?_alloc_at _ _ _ _ rfl,Vg]at hx;exact VJ hx⟩⟩
section
variable {Q:Nat->Prop}{W:Ur}{v:Ut}{k n:Nat}{T G H:Nat->List (Nat × Bs)}{l U:List (Nat × Bs)}
theorem SmQ.offX(h:SmQ Q W v l)(m:0<l.length)(hx:∀i x,W.cell? ⟨k,i,none⟩=some x->x=.slice none 0 0):SmQ (λg=>Q g/\g≠k) W v l:=by
 obtain⟨g,c,n,j,e,f,d⟩:=h;refine⟨g,c,n,j,⟨e,?_⟩,f,d⟩;rintro rfl;match l,m with
 | (a,b) :: t,_=>cases hx _ _ (d 0 _ rfl)
theorem GLq.offX(h:GLq Q W v n T)(q:0<n)(p:∀j,j<n->0<(T j).length)(hx:∀i x,W.cell? ⟨k,i,none⟩=some x->x=.slice none 0 0):GLq (λg=>Q g/\g≠k) W v n T:=by
 obtain⟨g,o,c,t,s,l,m,f⟩:=h;refine⟨g,o,c,t,s,⟨l,?_⟩,m,λj d=>?_⟩
 ·rintro rfl;obtain⟨x,b,r,u,e,-⟩:=f 0 q;have:=hx _ _ b;rw[e]at this;cases this
 ·obtain⟨x,b,r⟩:=f j d;exact⟨x,b,r.offX (p j d) hx⟩
theorem GRq.offX(h:GRq Q W v n G H U)(b:0<n)(hG:∀j,j<n->0<(G j).length)(q:∀j,j<n->0<(H j).length)(p:0<U.length)(hx:∀i x,W.cell? ⟨k,i,none⟩=some x->x=.slice none 0 0):GRq (λg=>Q g/\g≠k) W v n G H U:=by
 obtain⟨o,d,f,m,e,c,l⟩:=h.ex;exact⟨o,d,f,m,e.offX b hG hx,c.offX b q hx,l.offX p hx⟩
end
theorem Mp.sayAdd{w W W':Ur}{f d:List (Nat × List Ut)}{S:List Pq}{k r:Nat}{c:List Ut}{L p:Bs}(h:Mp w W f S)(i:Nat)(o:SP.Only r 0 32 W W')(y:Holds encB W' r 0 p)(C:Row W' k c)(u:W.heap.size<=k)(j:f[i]? = some (r,aA L):=by rfl)(e:f.set i (r,aA p)++[(k,c)]=d:=by(simp only[Uu,Uv,Xa,Xr])<;>rfl):Mp w W' d S/\∀g,Nk f g->g≠k->Nk d g:=by
 subst e;have n:∀g,Nk (f.set i (r,aA p)++[(k,c)]) g↔Nk f g/\g≠k:=λg=>by
  unfold Nk;rw[We,Mp.keys j,Wz];simp
 refine⟨?_,λg l t=>(n g).2 ⟨l,t⟩⟩;have l:=h.say i o y j rfl;have z:=h.lt (Mp.key j);refine⟨l.bl,λx hx=>?_,?_,λs v=>?_⟩
 ·rcases Wz.1 hx with hx|hx
  ·exact l.rw x hx
  ·rw[WM.1 hx];exact⟨UC h.bl.size u,C⟩
 ·rw[We,YW];refine⟨l.nd,by simp,λa q b m e=>?_⟩;rw[Mp.keys j]at q;have t:=(h.lt q).2;simp at m;omega
 ·refine s.kp _ W _ ⟨o.size,λg m B=>o.block g B λe=>((n g).1 m).1 (by rw[e];exact Mp.key j)⟩ (s.mo _ _ _ (λg m q=>(n g).2 ⟨q,oM⟩) (h.ob s v))
variable {P:Nat}[NeZero P]{N:Nat}[NeZero N]
theorem Jr(C:Fld P)(k:∀r:EC.Pt P,On r->mul N r=none)(c:IsP N)(y:Fin N)(n:Nat):Gd N n 1 (oQ N y.val (hGT P)) (λi=>(aD C k).ac (pwF (ivF y) i) (gPt C ⟨#[114,105,103,104,116]⟩ i)):=by
 have g:=nK C c.1 n;refine⟨λi b=>?_,λi b=>by unfold oQ;rw[UQ];exact g.len i b⟩;have h:=(g.tl i b).tm C k (pwF (ivF y) i);rw[<-lV c.1]at h;exact h
end
section
open SPA
section
variable {P:VD}{ops:Array Vk}{Q:Yo->Act->Ur->Prop}{p r:Nat}{J:Iv}{i fuel:Nat}{o:Vk}{listed:Array Bool}{a a':Act}{w w':Ur}{d:Option WC}{x v:Ut}{t:WC}{T:U8}{b off:Nat}{cs:List Ut}
theorem AG.ro(i:Nat)(e:∀W,J.p W->W.rangeAt b off cs)(hv:Hid (.agg cs.toArray=x))(n:(P.underlying T).map (·.isRow)=some true)(l:(P.info? T).map (·.size)=some cs.length)(h:AW P ops Q p r J fuel (listed.setIfInBounds i true) a' w)(ho:ops[i]? = some o:=by(simp only[Vg,U9,Vf])<;>rfl)(hd:o.dst=d:=by rfl)(s:V2 o (yielded ops a.tmps)=true:=by kernel_rfl)(k:o.op=.load T (.tmp t):=by rfl)(hx:a.eval (.tmp t)=oZ b off:=by rfl)
 (f:a.put d x=a':=by(simp only[UN,Us,Uu,Uv])<;>rfl) (g:aw1 ops p r (qw ops J.b p r i) i listed=true:=by kernel_rfl) (q:∀c a w,Q (.panic c) (a.put o.dst x) w->Q (.panic c) a w:=by exact λ_ _ _ h=>h):AW P ops Q p r J (fuel+1) listed a w:=by
 obtain rfl:=hv.out;obtain⟨m,v,u⟩:=Uy.1 n;exact AW.take i (qw ops J.b p r i) ho hd (yieldsIf_load_mid s T (.tmp t) k b off hx cs m (λw j=>e w (Sa.bel j)) v u l) f g q h
theorem AG.mv(i:Nat)(h:AW P ops Q p r J fuel (listed.setIfInBounds i true) a' w)(ho:ops[i]? = some o:=by(simp only[Vg,U9,Vf])<;>rfl)(hd:o.dst=d:=by rfl)(f:V2 o (yielded ops a.tmps)=true:=by kernel_rfl)(k:o.op=.move (.tmp t):=by rfl)(hx:a.eval (.tmp t)=x:=by(conv=>lhs;whnf)<;>rfl)
 (b:a.put d x=a':=by(simp only[UN,Us,Uu,Uv])<;>rfl) (g:aw1 ops p r (fw ops i) i listed=true:=by kernel_rfl) (e:∀c a w,Q (.panic c) (a.put o.dst x) w->Q (.panic c) a w:=by exact λ_ _ _ h=>h):AW P ops Q p r J (fuel+1) listed a w:=
 AW.take i (fw ops i) ho hd (U4 ⟨f,λw _=>by unfold U5;rw[k];dsimp only;rw[hx];rfl⟩) b g e h
theorem AG.cw(i:Nat){f:Xq}{args:Array Ut}{R:Ut->Ur->Prop}(c:J.p w->UH P f args w (Ret R))(hR:∀e w',J.p w->R e w'->J.p w')(h:∀e w',R e w'->AW P ops Q p r J fuel (listed.setIfInBounds i true) (a.put d e) w')(ho:ops[i]? = some o:=by(simp only[Vg,U9,Vf])<;>rfl)(hd:o.dst=d:=by rfl)(j:V2 o (yielded ops a.tmps)=true:=by kernel_rfl)(hx:(U5 a.eval o).run P w=.ok (.enter f args) w:=by kernel_rfl)(l:U7 .any ops listed=[i]:=by kernel_rfl):AW P ops Q p r J (fuel+1) listed a w:=λb=>by
 subst hd;exact anyS.step ho l λK g=>by
  rw[yCj j];unfold VT;rw[hx,WY];refine(c b).mono ?_;rintro e w' ⟨v,rfl,k⟩;exact g.out _ _ (UX (hR v w' b k)) (h v w' k (hR v w' b k))
end
variable {P:Nat}[NeZero P]{N:Nat}[NeZero N]
theorem SO(a b c d e f g h i j k:Ut)(w:Ur):(Ve 28 (.agg #[a,b,c,d,e,f,g,h,i,j,k])).run prog w=.ok (jZ w.heap.size) (w.alloc (.cells #[a,b,c,d,e,f,g,h,i,j,k] 28)):=kR
theorem Uf(a b c d:Nat)(w:Ur):(Vy 24 4 #[(0,r33 a),(1,r33 b),(2,r33 c),(3,r33 d)]).run prog w=.ok (sZ w.heap.size 4 4) (w.alloc (.cells #[r33 a,r33 b,r33 c,r33 d] 23)):=kR
abbrev pqP(k n:Nat)(B:Nat->Bs):Pq:=⟨λQ W=>PtL Q W k n B,λ_ _ _ k h=>h.keep k,λ_ _ _ m h=>h.mono2 m⟩
def four(a b c d:Bs)(j:Nat):Bs:=if j=0 then a else if j=1 then b else if j=2 then c else d
def AD{α:Type}(a b c:α)(j:Nat):α:=if j=0 then a else if j=1 then b else c
theorem Ej{Q:Nat->Prop}{W':Ur}{k a b c:Nat}{x y z:Bs}(h:ElQ Q 32 W' (r32 a) x)(f:ElQ Q 32 W' (r32 b) y)(e:ElQ Q 32 W' (r32 c) z)(d:Row W' k [r32 a,r32 b,r32 c]):Args W' (some (aZ k)) 3 (AD x y z):=λ_=>by
 refine⟨_,rfl,d.1,λj g=>?_⟩;match j,g with
 | 0,_=>exact⟨_,d.2.1 0 _ rfl,h.argS⟩
 | 1,_=>exact⟨_,d.2.1 1 _ rfl,f.argS⟩
 | 2,_=>exact⟨_,d.2.1 2 _ rfl,e.argS⟩
 | j+3,h=>omega
theorem Il{Q:Nat->Prop}{W:Ur}{k n c:Nat}{a:Nat->Nat}(h:SLq Q W (sZ k n c) n a)(i:Nat)(b:i<n):W.rangeAt k (0+4*i) (wn (a i)):=by
 obtain⟨g,o,d,e,-,-,-,h⟩:=h;cases e
 exact h i b
theorem EI{Q:Nat->Prop}{W:Ur}{k n:Nat}{B:Nat->Bs}(h:PtL Q W k n B)(i:Nat)(b:i<n):W.rangeAt k (0+33*i) (aA (B i)):=by
 rw[UD];exact(h i b).2.2
abbrev Z3:List Ut:=[.slice none 0 0,.slice none 0 0,.slice none 0 0]
theorem Om{x:Ut}(h:x∈Z3):x=.slice none 0 0:=by
 simp only[VX,UY,or_false,or_self]at h;exact h
def pLw(v:Ut)(r:Nat)(L:Bs):S1:=⟨λx w=>x=v/\r<w.heap.size/\Holds encB w r 0 L,λ_ _ _ k h=>⟨h.1,Ux h.2.1 k.size,Holds.below h.2.2 k h.2.1⟩⟩
theorem row_ne{b:List (Nat × List Ut)}{k r:Nat}{c u:List Ut}(h:(b.map (·.1)).Nodup)(i j:Nat)(o:i≠j)(s:b[i]? = some (k,c))(p:b[j]? = some (r,u)):k≠r:=λe=>by
 have l:=Z2.1 h;obtain⟨v,t⟩:=UF.1 s;obtain⟨m,q⟩:=UF.1 p;have g:(b.map (·.1))[i]'(by simpa using v)=k:=by rw[Xd,t]
 have f:(b.map (·.1))[j]'(by simpa using m)=r:=by rw[Xd,q]
 rcases Wq i j with d|n
 ·exact l i j _ _ d (g.trans (e.trans f.symm))
 ·exact l j i _ _ oM (f.trans (e.symm.trans g.symm))
theorem Lq(C:Fld P)(O:Ord N)(k:∀r:EC.Pt P,On r->mul N r=none)(u:IsP N)(m:18446744073709551616<=N){n t:Nat}(j:Wd n t)(p:Rp)(ok:p.Ok)(V:Bs)(d c b:OnP P)(q:V=wP d)(f:p.c=wP c)(s:p.d=wP b)(tau tt x y z:Fin N)(l:p.u=tau.val)(i:p.t=tt.val)(w:Ur)(X:Bs)(g:X=wP ((aD C k).cm (hPV C) (gPG C) (tt-rgD n y z) tau))(o:X=wP ((aD C k).ad ((aD C k).ad ((aD C k).ac (z*z) d) ((aD C k).ac x c)) ((aD C k).ac (x*x) b))):
 UH prog 122 #[.agg p.l.toArray,pvl V,iZ n,nv x.val,nv y.val,nv z.val] w (rZ w λe w'=>e=.bool true):=by
 refine(Lr C O k u m j p ok V d c b q f s tau tt x y z l i w X X g o).mono ?_;rintro e w' ⟨v,rfl,f,rfl⟩;refine⟨_,rfl,f,?_⟩;generalize X=Y;simp only[decide_true]
theorem uIl:(prog.underlying 202).map (·.isRow)=some true:=kR
theorem iIl(c k t a b:Nat):(prog.info? 202).map (·.size)=some (inL c k t a b).length:=kR
theorem Oq(C:Fld P)(O:Ord N)(d:∀r:EC.Pt P,On r->mul N r=none)(hP:IsP N)(hN:18446744073709551616<=N){n t:Nat}(hw:Wd n t)(p:Rp)(ok:p.Ok)(V:Bs)(Vp PA PS P1 P2:OnP P)(hV:V=wP Vp)(hA:p.a=wP PA)(hS:p.s=wP PS)(Z:p.c=wP P1)(h2:p.d=wP P2)(tau mu tt x y z wf:Fin N)(hu:p.u=tau.val)(hm:p.m=mu.val)(ht:p.t=tt.val)(L3 L6 L8:Bs)(l3:L3=bgL V n p.a p.s)(ey:y=kM N L3)(ez:z=kM N (bB L3))(l6:L6=mdL (bB (bB L3)) p.c p.d)(ex:x=kM N L6)(l8:L8=enL (bB L6) p.u p.m p.t)(ew:wf=kM N L8)
 (Lb Rb:Nat->Bs) (Lp Tp:Nat->OnP P) (c7:∀j,Lb j=wP (Lp j)) (cd:∀j,Rb j=wP (Tp j)) (a b:Fin N) (u:OnP P) (eu:u=(aD C d).ac wf (uPt C)) (v0:Md.Vs Bs (OnP P)) (d0:v0.s=bB L8) (ei:v0.g=gPt C ⟨#[108,101,102,116]⟩) (ek:v0.h=λi=>(aD C d).ac (pwF (ivF y) i) (gPt C ⟨#[114,105,103,104,116]⟩ i)) (en:v0.p=(aD C d).ad ((aD C d).ad ((aD C d).ad ((aD C d).ad PA ((aD C d).ac x PS)) ((aD C d).ac (-1) ((aD C d).ac mu (gPG C)))) ((aD C d).ad ((aD C d).dt (λ_=>-z) v0.g n) ((aD C d).dt (rgS y z) v0.h n))) ((aD C d).ac tt u)) (X:Bs) (hX:X=wP ((aD C d).cm (hPV C) (gPG C) (tt-rgD n y z) tau)) (hY:X=wP ((aD C d).ad ((aD C d).ad ((aD C d).ac (z*z) Vp) ((aD C d).ac x P1)) ((aD C d).ac (x*x) P2))) (eg:(aD C d).KV u a b ((aD C d).vst (chF N) ivF t Lp Tp v0 t)) (f:Nat) (e:Ut) (w:Ur) (da:RgA f t p Lb Rb (bx a.val) (bx b.val) e w) :
 UH prog 54 #[pvl V,iZ n,e] w (rZ w λe w'=>e=.bool true):=by
 obtain⟨g1,g2,g3,g4,g5,g6,g7,vL,vR,vA,vB,rfl,hT,hL,hR,eA,eB⟩:=da.ex;have c6:=hw.2.2;have sV:V.size=33:=by rw[hV];exact aT _
 have h7:=λ(W:Ur) (D:kZ w W)=>(Kq.of_below D:Kq (λ_=>True) w W)
 have HT:=mk1 (λ(W:Ur) (D:kZ w W)=>hT.keep (h7 W D));have h4:∀X:OnP P,∃q,rd P (wP X)=some q:=λX=>by obtain⟨q,hq,-⟩:=zM C X.2;exact⟨q,hq⟩
 have ea:=mk1 (λ(W:Ur) (D:kZ w W)=>LU C O c6 W (hL.keep (h7 W D) λg S=>D.block g (hL.lt S).2) (hR.keep (h7 W D) λg S=>D.block g (hR.lt S).2) (eA.keep (h7 W D)) (eB.keep (h7 W D)) (λj _=>by rw[c7];exact h4 _) (λj _=>by rw[cd];exact h4 _) (kJ O a.isLt) (kJ O b.isLt));obtain⟨vV,h8⟩:=hE (pvl V);obtain⟨k3,cj⟩:=hE (w.heap.size);obtain⟨w1,bk⟩:=hE (w.alloc (.cells (aA V).toArray 103));obtain⟨k5,d7⟩:=hE (w1.heap.size);obtain⟨w2,df⟩:=hE (w1.alloc (.cells [r33 g1,r33 g2,r33 g3,r33 g4,r32 g5,r32 g6,r32 g7,vL,vR,vA,vB].toArray 28));have K2:=mk1 (((Mp.start w).new cj bk).new d7 df);obtain⟨ve,e0⟩:=hE (U3 #[r33 g1,r33 g2,r33 g3,r33 g4,r32 g5,r32 g6,r32 g7,vL,vR,vA,vB]);have B1:Hid ((Ve 103 vV).run prog w=.ok (jZ k3) w1):=by rw[<-h8.out,<-bk.out,<-cj.out];exact rM sV w
 have B2:Hid ((Ve 28 ve).run prog w1=.ok (jZ k5) w2):=by rw[<-e0.out,<-df.out,<-d7.out];exact SO _ _ _ _ _ _ _ _ _ _ _ w1
 have dh:=mk1 (hw.hv w2);rw[h8.out,e0.out];clear da hT hL hR eA eB h7;go_enter func54,ntmps54;refine Uz ?_;refine PW.begin ?_;refine PW.ns B1.out ?_;refine PW.ns B2.out ?_;refine PW.va (.bool false) ?_;refine PW.dn ?_;refine Uz ?_;refine PW.begin ?_;refine PW.mv ?_;refine PW.gi dh.out λw3 e4=>?_
 have K3:=mk1 (K2.grow e4);clear K2 e4 dh B1 B2;refine PW.mv ?_;refine PW.va (iZ t) ?_;refine PW.va (.bool true) ?_;refine PW.va (iZ t) ?_;refine PW.va (.bool true) ?_;refine PW.dn ?_;refine Uz ?_;refine PW.begin ?_;refine PW.va (oZ k5 7) ?_;refine PW.ro (cs:=[vL,vR,vA,vB]) (rnB (xs:=[r33 g1,r33 g2,r33 g3,r33 g4,r32 g5,r32 g6,r32 g7]) (K3.at_ 1).2.1 rfl) (Hid.mk' rfl) Lf Jf ?_;refine PW.mv ?_;refine PW.ca (ea w3 K3.bl) ?_;rintro e w4 ⟨d4,kl,kr,rfl,cv,bs⟩;simp only[UN,Us,Uu,Uv];have A:=mk1 ((K3.gets d4 (pqP kl t Lb) cv).has (pqP kr t Rb) (bs.mono2 λg _ S=>K3.nk g S));clear ea d4 cv bs K3;obtain⟨vI,hvI⟩:=hE (U3 (inL kl kr t a.val b.val).toArray);rw[hvI.out];refine PW.mv ?_;refine PW.va vI ?_;refine PW.va (.bool true) ?_;obtain⟨k9,ck⟩:=hE (w4.heap.size);obtain⟨w5,bv⟩:=hE (w4.alloc (.cells inZ.toArray 202));obtain⟨w6,e9⟩:=hE (w5.setCells k9 0 (inL kl kr t a.val b.val));have B:=mk1 (A.new ck bv);have K6:=mk1 (B.put 2 e9);refine PW.al ck bv ?_;refine PW.st e9 hvI (B.th 2) (iIl _ _ _ _ _) (E9 _ _ _ _ _) ?_;refine PW.va (.bool true) ?_;clear A B;refine PW.dn ?_;have I:=HT w6 K6.bl;obtain⟨kb,bo⟩:=hE (w6.heap.size);obtain⟨w7,dx⟩:=hE (w6.alloc (.cells [r33 g1,r33 g2,r33 g3,r33 g4].toArray 23));have h9:Hid ((Vy 24 4 #[(0,r33 g1),(1,r33 g2),(2,r33 g3),(3,r33 g4)]).run prog w6=.ok (sZ kb 4 4) w7):=by rw[<-dx.out,<-bo.out];exact Uf _ _ _ _ w6
 have F7:=aN bo dx;have bz:Hid (UH prog 120 #[.func (.func 53) #[] #[],sZ kb 4 4] w7 (rZ w7 λe w'=>∃K,e=.tuple #[sZ K 4 4,.bool true]/\PtL (w7.heap.size<=·) w' K 4 (four p.a p.s p.c p.d))):=by
  have kq:Kq (λ_=>True) w6 w7:=Kq.of_below F7.1;refine(Kh C kb 4 4 dC (four p.a p.s p.c p.d) w7 F7.2.1 λj T=>?_).mono ?_
  ·match j,T with
   | 0,_=>exact⟨_,F7.2.2.1 0 _ rfl,(I.a.keep kq).arg⟩
   | 1,_=>exact⟨_,F7.2.2.1 1 _ rfl,(I.b.keep kq).arg⟩
   | 2,_=>exact⟨_,F7.2.2.1 2 _ rfl,(I.c.keep kq).arg⟩
   | 3,_=>exact⟨_,F7.2.2.1 3 _ rfl,(I.d.keep kq).arg⟩
  ·rintro e w' ⟨v,rfl,D,h⟩;rcases h with⟨-,K,rfl,s,l,k3⟩|⟨⟨j,T,f⟩,-⟩
   ·exact⟨_,rfl,D,K,rfl,λj T=>⟨s,l,k3 j T⟩⟩
   ·exfalso;have:∃q,rd P (four p.a p.s p.c p.d j)=some q:=by
     match j,T with
     | 0,_=>rw[show four p.a p.s p.c p.d 0=p.a from rfl,hA];exact h4 _
     | 1,_=>rw[show four p.a p.s p.c p.d 1=p.s from rfl,hS];exact h4 _
     | 2,_=>rw[show four p.a p.s p.c p.d 2=p.c from rfl,Z];exact h4 _
     | 3,_=>rw[show four p.a p.s p.c p.d 3=p.d from rfl,h2];exact h4 _
    obtain⟨q,hq⟩:=this;rw[hq]at f;cases f
 refine Uz ?_;refine PW.begin ?_;refine PW.va (jZ k5) ?_;refine PW.ce ((K6.at_ 1).2.1 0 _ rfl) uBy ?_;refine PW.va (oZ k5 1) ?_;refine PW.ce ((K6.at_ 1).2.1 1 _ rfl) uBy ?_;refine PW.va (oZ k5 2) ?_;refine PW.ce ((K6.at_ 1).2.1 2 _ rfl) uBy ?_;refine PW.va (oZ k5 3) ?_;refine PW.ce ((K6.at_ 1).2.1 3 _ rfl) uBy ?_;refine PW.ns h9.out ?_;refine PW.ca bz.out ?_;rintro e w8 ⟨d8,A,rfl,c8⟩;simp only[UN,Us,Uu,Uv];have K8:=mk1 ((K6.grow F7.1).gets d8 (pqP A 4 (four p.a p.s p.c p.d)) c8);clear bz h9 F7 I K6 d8 c8;refine PW.mv ?_;refine PW.va (sZ A 4 4) ?_;refine PW.va (.bool true) ?_;refine PW.va (sZ A 4 4) ?_;refine PW.va (.bool true) ?_;refine PW.dn ?_;have I:=HT w8 K8.bl;obtain⟨kc,dw⟩:=hE (w8.heap.size);obtain⟨w9,bt⟩:=hE (w8.alloc (.cells [r32 g5,r32 g6,r32 g7].toArray 23));have h9:Hid ((Vy 24 3 #[(0,r32 g5),(1,r32 g6),(2,r32 g7)]).run prog w8=.ok (sZ kc 3 3) w9):=by rw[<-bt.out,<-dw.out];exact SK _ _ _ w8
 have F9:=aN dw bt;have k6:Kq (λ_=>True) w8 w9:=Kq.of_below F9.1;have bi:=mk1 (Kf O 3 3 dC (some (aZ kc)) (AD (bx p.u) (bx p.m) (bx p.t)) (AD p.u p.m p.t) w9 (Ej (I.e.keep k6) (I.f.keep k6) (I.g.keep k6) F9.2) λj T=>by
  match j,T with
  | 0,_=>exact kJ O (by rw[hu];exact tau.isLt)
  | 1,_=>exact kJ O (by rw[hm];exact mu.isLt)
  | 2,_=>exact kJ O (by rw[ht];exact tt.isLt)
  | j+3,h=>omega)
 refine Uz ?_;refine PW.begin ?_;refine PW.va (oZ k5 4) ?_;refine PW.ce ((K8.at_ 1).2.1 4 _ rfl) uBy ?_;refine PW.va (oZ k5 5) ?_;refine PW.ce ((K8.at_ 1).2.1 5 _ rfl) uBy ?_;refine PW.va (oZ k5 6) ?_;refine PW.ce ((K8.at_ 1).2.1 6 _ rfl) uBy ?_;refine PW.ns h9.out ?_;refine PW.ca bi.out ?_;rintro e he ⟨ki,B,rfl,dm⟩;simp only[UN,Us,Uu,Uv];have M:=mk1 ((K8.grow F9.1).gets ki (pqS (sZ B 3 3) 3 (AD p.u p.m p.t)) dm);clear bi h9 F9 I K8 ki dm k6;refine PW.mv ?_;refine PW.va (sZ B 3 3) ?_;refine PW.va (.bool true) ?_;refine PW.va (sZ B 3 3) ?_;refine PW.va (.bool true) ?_;refine PW.dn ?_;refine Uz ?_;go_wp2_with fail
 rename_i Q' K hKK
 refine hG (pvl p.a) λva e8=>?_
 refine hG (pvl p.s) λvs c9=>?_
 refine hG (pvl p.c) λvc dl=>?_
 refine hG (pvl p.d) λvd cz=>?_
 refine hG (nv p.u) λvu ci=>?_
 refine hG (nv p.m) λvm cq=>?_
 refine hG (nv p.t) λvt de=>?_
 refine hG (U3 p.l.toArray) λvp E=>?_
 refine hG he.heap.size λb0 D=>?_
 have hk:∀ {W},kZ he W->b0<=W.heap.size:=λh=>D.out ▸ h.size
 refine(gwL [pE (sZ A 4 4),pE (.pointer (some ⟨A,0+33*0,none⟩)),pE va,pE (sZ A 4 4),pE (.pointer (some ⟨A,0+33*1,none⟩)),pE vs,pE (sZ A 4 4),pE (.pointer (some ⟨A,0+33*2,none⟩)),pE vc,pE (sZ A 4 4),pE (.pointer (some ⟨A,0+33*3,none⟩)),pE vd,pE (sZ B 3 3),pE (.pointer (some ⟨B,0+4*0,none⟩)),pE vu,pE (sZ B 3 3),pE (.pointer (some ⟨B,0+4*1,none⟩)),pE vm,pE (sZ B 3 3),pE (.pointer (some ⟨B,0+4*2,none⟩)),pE vt,pE vp,RG.pN b0 rp0.l] (λW=>kZ he W) (λW W' D h=>h.trans (D.mono h.size))).tail2 23 kR kR kR ⟨
  gO 11 (sZ A 4 4),
  DR 0 67 (sZ A 4 4) (.pointer (some ⟨A,0+33*0,none⟩)) (Vl 200 (sZ A 4 4) (iZ ((0:Nat):Int))) (atP A 0 4 4 0 dC) (λx W h=>h) (λ_=>rfl),
  gLr (cs:=aA p.a) 1 68 (λW s=>EI ((M.grow s).get 2) 0 dC) uCP (by rw[aB ok.a];exact iCP) (hR:=λ_=>e8.out),
  gO 11 (sZ A 4 4),
  DR 3 70 (sZ A 4 4) (.pointer (some ⟨A,0+33*1,none⟩)) (Vl 200 (sZ A 4 4) (iZ ((1:Nat):Int))) (atP A 0 4 4 1 dC) (λx W h=>h) (λ_=>rfl),
  gLr (cs:=aA p.s) 4 71 (λW s=>EI ((M.grow s).get 2) 1 dC) uCP (by rw[aB ok.s];exact iCP) (hR:=λ_=>c9.out),
  gO 11 (sZ A 4 4),
  DR 6 73 (sZ A 4 4) (.pointer (some ⟨A,0+33*2,none⟩)) (Vl 200 (sZ A 4 4) (iZ ((2:Nat):Int))) (atP A 0 4 4 2 dC) (λx W h=>h) (λ_=>rfl),
  gLr (cs:=aA p.c) 7 74 (λW s=>EI ((M.grow s).get 2) 2 dC) uCP (by rw[aB ok.c];exact iCP) (hR:=λ_=>dl.out),
  gO 11 (sZ A 4 4),
  DR 9 76 (sZ A 4 4) (.pointer (some ⟨A,0+33*3,none⟩)) (Vl 200 (sZ A 4 4) (iZ ((3:Nat):Int))) (atP A 0 4 4 3 dC) (λx W h=>h) (λ_=>rfl),
  gLr (cs:=aA p.d) 10 77 (λW s=>EI ((M.grow s).get 2) 3 dC) uCP (by rw[aB ok.d];exact iCP) (hR:=λ_=>cz.out),
  gO 13 (sZ B 3 3),
  DR 12 79 (sZ B 3 3) (.pointer (some ⟨B,0+4*0,none⟩)) (Vl 124 (sZ B 3 3) (iZ ((0:Nat):Int))) (lF B 0 3 3 0 dC) (λx W h=>h) (λ_=>rfl),
  gLr (cs:=wn p.u) 13 80 (λW s=>Il ((M.grow s).get 3) 0 dC) u40 i40 (hR:=λ_=>ci.out),
  gO 13 (sZ B 3 3),
  DR 15 82 (sZ B 3 3) (.pointer (some ⟨B,0+4*1,none⟩)) (Vl 124 (sZ B 3 3) (iZ ((1:Nat):Int))) (lF B 0 3 3 1 dC) (λx W h=>h) (λ_=>rfl),
  gLr (cs:=wn p.m) 16 83 (λW s=>Il ((M.grow s).get 3) 1 dC) u40 i40 (hR:=λ_=>cq.out),
  gO 13 (sZ B 3 3),
  DR 18 85 (sZ B 3 3) (.pointer (some ⟨B,0+4*2,none⟩)) (Vl 124 (sZ B 3 3) (iZ ((2:Nat):Int))) (lF B 0 3 3 2 dC) (λx W h=>h) (λ_=>rfl),
  gLr (cs:=wn p.t) 19 86 (λW s=>Il ((M.grow s).get 3) 2 dC) u40 i40 (hR:=λ_=>de.out),
  Jm [(69,va),(72,vs),(75,vc),(78,vd),(81,vu),(84,vm),(87,vt)] vp (λa W f=>⟨f.n 2 69 kR kR,f.n 5 72 kR kR,f.n 8 75 kR kR,f.n 11 78 kR kR,f.n 14 81 kR kR,f.n 17 84 kR kR,f.n 20 87 kR kR,yCl⟩) (λ_=>rfl) (λW=>by rw[<-e8.out,<-c9.out,<-dl.out,<-cz.out,<-ci.out,<-cq.out,<-de.out,<-E.out];unfold pvl Rp.l;rw[dF ok.a,dF ok.s,dF ok.c,dF ok.d];kernel_rfl),
  xP rp0.l 137 (λW W' h s=>⟨_,rfl,hk s,h⟩),yCl⟩ ⟨rfl,rfl,rfl,Uw _,λ_ _=>rfl⟩ ?_
 intro Y7 ee hR s;have eb:Y7 21=vp:=hR 21 dC;obtain⟨b6,db,du,c0⟩:=hR 22 dC;have bh:=mk1 (M.add s c0 (by rw[D.out];exact du));dsimp only[bU,VK,Xl,Xm];simp only[UN,Us,Uu,Uv];rw[eb,db];clear hR s eb db M D hk du c0;refine hG (ee.setCells b6 0 p.l) λha kg=>?_
 have lR:p.l.length=rp0.l.length:=(Rp.len ok).trans (Rp.len Iy).symm;have hz:=mk1 (bh.put 3 kg rfl lR);have h6:(prog.info? 137).map (·.size)=some p.l.length:=by rw[Rp.len ok];exact iRd
 refine PW.st kg E (bh.th 3 rfl lR) h6 (Rp.one p) ?_;clear bh;refine PW.dn ?_;refine hKK _ _ ?_;clear hKK K;refine hG (bB (bB L3)) λL5 bd=>?_
 have s5:L5.size=32:=by rw[<-bd.out];exact bE _ _
 refine hG (nv y.val) λvy R=>?_
 refine hG (nv z.val) λvz h0=>?_
 have kd:n<=64:=by rw[hw.1];exact UC (VA dC hw.2.2) dC
 have kh:Hid (UH prog 68 #[vp,vV,iZ n] ha (rZ ha λe w'=>∃r,e=.tuple #[lgV r,vy,vz]/\ha.heap.size<=r/\Holds encB w' r 0 L5)):=by
  have h:=NX O p ok V sV n oM ha;rw[<-l3,mP O hP ey,mP O hP ez,bd.out,E.out,h8.out,R.out,h0.out]at h;exact h
 have iV:(prog.info? 103).map (·.size)=some (aA V).length:=by rw[aB sV];exact iCP
 refine Uz ?_;refine PW.begin ?_;refine PW.ro (hz.at_ 3).2.1 E uRd h6 ?_;refine PW.ro (hz.at_ 0).2.1 h8 uCP iV ?_;refine PW.mv ?_;refine PW.ca kh.out ?_;rintro e cg ⟨ky,r,rfl,lr,Hr⟩;simp only[UN,Us,Uu,Uv];have dy:=mk1 (hz.add ky (pW Hr (Holds.lt Hr (by rw[s5];decide))) lr);clear kh ky lr Hr hz;refine PW.mv ?_;refine PW.va (lgV r) ?_;refine PW.va vy ?_;refine PW.va vz ?_;refine hG (cg.heap.size) λb7 kf=>?_
 refine hG (cg.alloc (.cells [.pointer none].toArray 145)) λbr km=>?_
 refine hG br.heap.size λbe kw=>?_
 refine hG (br.alloc (.cells (RG.z 4).toArray 49)) λcp kk=>?_
 refine hG cp.heap.size λdz kp=>?_
 refine hG (cp.alloc (.cells (RG.z 4).toArray 49)) λeo kz=>?_
 refine hG (eo.setCells b7 0 [jZ r]) λep ke=>?_
 refine hG (ep.setCells be 0 (wn y.val)) λef kj=>?_
 refine hG (ef.setCells dz 0 (wn z.val)) λbb ka=>?_
 have b9:=mk1 (((dy.new kf km).new kw kk).new kp kz);have b2:=mk1 (b9.put 5 ke);have b4:=mk1 (b2.put 6 kj);have hy:=mk1 (b4.put 7 ka);refine PW.al kf km ?_;refine PW.al kw kk ?_;refine PW.al kp kz ?_;refine PW.st ke (Hid.mk' rfl) (b9.th 5) iLg kR ?_;refine PW.st kj R (b2.th 6) i40 (aM _) ?_;refine PW.st ka h0 (b4.th 7) i40 (aM _) ?_;clear dy b9 b2 b4;refine PW.dn ?_;refine hG (bB L6) λL7 b8=>?_
 have s7:L7.size=32:=by rw[<-b8.out];exact bE _ _
 refine hG (nv x.val) λvx h5=>?_
 have ku:Hid (UH prog 76 #[vp,lgV r] bb (Ret λe w'=>SP.Only r 0 32 bb w'/\Holds encB w' r 0 L7/\e=vx)):=by
  have h:=NC O p ok r L5 bb (hy.log 4) s5;rw[show mdL L5 p.c p.d=L6 by rw[<-bd.out];exact l6.symm,mP O hP ex,b8.out,E.out,h5.out]at h;exact h
 refine Uz ?_;refine PW.begin ?_;refine PW.ro (hy.at_ 3).2.1 E uRd h6 ?_;refine PW.ro (cs:=[jZ r]) (hy.at_ 5).2.1 (Hid.mk' rfl) uLg iLg ?_;refine PW.ca ku.out ?_;rintro e e5 ⟨kt,kn,dp⟩;obtain rfl:=dp.symm;simp only[UN,Us,Uu,Uv];have bl:=mk1 (hy.say 4 kt kn);clear ku kt kn hy;refine hG (e5.heap.size) λbn kx=>?_
 refine hG (e5.alloc (.cells (RG.z 4).toArray 49)) λeh kv=>?_
 refine hG (eh.setCells bn 0 (wn x.val)) λL ko=>?_
 have bf:=mk1 (bl.new kx kv);have F:=mk1 (bf.put 8 ko);refine PW.al kx kv ?_;refine PW.st ko h5 (bf.th 8) i40 (aM _) ?_;clear bl bf;refine PW.dn ?_;refine hG (bB L8) λL9 k0=>?_
 have s9:L9.size=32:=by rw[<-k0.out];exact bE _ _
 refine hG (nv wf.val) λvw co=>?_
 have b5:0<n:=by rw[hw.1];exact XI dC
 obtain⟨Q2,hQ⟩:=F.out.q;have nr:∀g,Q2 g->g≠r:=F.ne hQ 4;have hs:=(F.at_ 4).1;have l:Hid (∀ {k:Nat}{c:List Ut}{W:Ur},Row L k c->k≠r->SP.Only r 0 32 L W->Row W k c):=λZ h2 h3=>aV Z h3.size (h3.block _ Z.1 h2)
 have nk:Hid ((be≠r/\b6≠r)/\b7≠r):=by
  have h:=F.out.nd;simp only[List.map_cons,List.map_nil,List.nodup_cons,VX,UY,or_false,not_or]at h;exact⟨⟨λe=>h.2.2.2.2.1.2.1 e.symm,h.2.2.2.1.1⟩,λe=>h.2.2.2.2.1.1 e.symm⟩
 have ct:=nK C hP.1 n;have c3:Hid (∀W,Holds encB W r 0 L7->UH prog 81 #[vp,lgV r] W (Ret λe w'=>SP.Only r 0 32 W w'/\Holds encB w' r 0 L9/\e=vw)):=λW hH=>by
  have h:=NR O p ok (by rw[hu];exact tau.isLt) (by rw[hm];exact mu.isLt) (by rw[ht];exact tt.isLt) r L7 W hH s7;rw[show enL L7 p.u p.m p.t=L8 by rw[<-b8.out];exact l8.symm,mP O hP ew,k0.out,E.out,co.out]at h;exact h
 have ds:Hid (∀W v,(∀g,W.heap.size<=g->Q2 g)->GRq Q2 W v n (gGT P) (hGT P) (uGT P)->UH prog 84 #[v,vy,vw] W (rZ W λe w'=>GRq Q2 w' e n (gGT P) (oQ N y.val (hGT P)) ((uGT P).map (tmT N wf.val)))):=λW v Z h2=>by
  rw[<-R.out,<-co.out];exact H6 O n b5 kd (gGT P) (hGT P) (uGT P) (λi G=>⟨(ct.tl i G).ok,by show 1<=512;decide⟩) (mR C hP.1).ok (by show 1<=512;decide) y.val wf.val y.isLt wf.isLt v W Z h2
 refine hG L.heap.size λb0 D=>?_
 have hk:∀ {W},SP.Only r 0 32 L W->b0<=W.heap.size:=λh=>D.out ▸ h.size
 have Gk:Hid (∀ {W W':Ur}{v:Ut}{G H U},SP.Only r 0 32 W W'->GRq Q2 W v n G H U->GRq Q2 W' v n G H U):=λhO h=>h.keep ⟨hO.size,λg S hl=>hO.block g hl (nr g S)⟩
 have rb:r<b0:=by rw[<-D.out];exact hs
 have hc:Hid (∀ {W:Ur},SP.Only r 0 32 L W->∀g,W.heap.size<=g->Q2 g):=λh g S=>F.nkq hQ g (UC h.size S)
 refine Uz ?_;refine(gwL [pE (iZ n),pR Q2 n (gGT P) (hGT P) (uGT P),pE vy,pE vp,pE (lgV r),pLw vw r L9,pR Q2 n (gGT P) (oQ N y.val (hGT P)) ((uGT P).map (tmT N wf.val)),pX b0 Z3] (λW=>SP.Only r 0 32 L W) (λ_ _ D h=>h.trans (SP.Only.of_below D rfl (Ux hs h.size)))).tailL 5 (λW W'=>SP.Only r 0 32 W W') (λW=>r<W.heap.size/\Holds encB W r 0 L7) 8 (λj v W W' T hO h=>by
  match j,T with
  | 0,_=>exact h
  | 1,_=>exact Gk.out hO h
  | 2,_=>exact h
  | 3,_=>exact h
  | 4,_=>exact h
  | 5,T=>exact(T rfl).elim
  | 6,_=>exact Gk.out hO h
  | 7,_=>exact Mk hO rb h
  | j+8,_=>exact h) (λW W' hO h=>SP.Only.trans h hO) (λW W' D h=>⟨Ux h.1 D.size,Holds.below h.2 D h.1⟩) kR kR kR ⟨
  DK (gO 1 (iZ n)),
  DK (oW 0 100 62 (λx=>#[x]) (λx W e1 s=>by
   obtain rfl:x=iZ n:=e1;refine(xQ (P:=P) C n oM W).mono ?_;rintro e W' ⟨J,rfl,Z,h2⟩;exact⟨_,rfl,Z,h2.mono (hc.out s)⟩)),
  DK (gLo (cs:=wn y.val) 17 (λW s=>(l.out (F.at_ 6) nk.1.1 s).2.1) u40 i40 (hR:=λ_=>R.out)),
  DK (gLo (cs:=p.l) 15 (λW s=>(l.out (F.at_ 3) nk.1.2 s).2.1) uRd h6 (hR:=λ_=>E.out)),
  DK (gLo (cs:=[jZ r]) 16 (λW s=>(l.out (F.at_ 5) nk.2 s).2.1) uLg iLg),
  TR (λa W f s=>⟨[(103,vp),(104,lgV r)],81,#[vp,lgV r],⟨f.n 3 103 kR kR,f.n 4 104 kR kR,yCl⟩,kR,by
   refine(c3.out W s.2).mono ?_;rintro e W' ⟨J,rfl,Z,h2,h3⟩;exact⟨_,rfl,Z,h3,Ux s.1 Z.size,h2⟩⟩),
  DK (rG 1 101 2 102 5 105 84 (λx y z=>#[x,y,z]) (λx u z W e1 e2 e3 s=>by
   obtain rfl:u=vy:=e2;obtain rfl:z=vw:=e3.1;exact ds.out W x (hc.out s) e1)),
  DK (RX b0 Z3 133 (λW s=>hk s) (λv W h=>h)),yCl⟩ (SP.Only.of_below (⟨rfl,rfl,rfl,Uw _,λ_ _=>rfl⟩:kZ L L.drew) rfl hs) ⟨hs,F.log 4⟩ ?_
 intro Y bc hR s;have cy:GRq Q2 bc (Y 6) n (gGT P) (oQ N y.val (hGT P)) ((uGT P).map (tmT N wf.val)):=hR 6 dC;have d2:Holds encB bc r 0 L9:=(hR 5 dC).2.2;obtain⟨d9,e7,c5,c4,bp⟩:=hR 7 dC;obtain⟨cf,bj⟩:=F.out.sayAdd 4 s d2 c4 (by rw[D.out];exact c5);have gl:∀j,j<n->0<(gGT P j).length:=λj T=>by rw[(vE C hP.1 n).len j T];decide
 have hl:∀j,j<n->0<(oQ N y.val (hGT P) j).length:=λj T=>by rw[(Jr C d hP y n).len j T];decide
 have k4:=(cy.offX b5 gl hl (by rw[UQ];show 0<1;decide) (λi x hx=>Om (bp i x hx))).mono λg S=>bj g (by rw[hQ.out];exact S.1) S.2
 obtain⟨q1,q2,q3,e6,d3,cn,d6⟩:=k4.ex;obtain⟨ga,oa,ca,e1⟩:∃g o c,q1=.slice (some ⟨g,o,none⟩) n c:=by obtain⟨g,o,c,h,-⟩:=d3;exact⟨g,o,c,h⟩
 obtain⟨gb,ob,cb,e2⟩:∃g o c,q2=.slice (some ⟨g,o,none⟩) n c:=by obtain⟨g,o,c,h,-⟩:=cn;exact⟨g,o,c,h⟩
 obtain⟨gc,mc,cc,e3⟩:∃g m c,q3=sZ g m c:=by obtain⟨g,c,h,-⟩:=d6;exact⟨g,_,c,h⟩
 subst e1 e2 e3;rw[e6]at k4;have bg:=mk1 (cf.has (pqG _ n (gGT P) (oQ N y.val (hGT P)) ((uGT P).map (tmT N wf.val))) k4);dsimp only[bU,VK,Xl,Xm];simp only[UN,Us,Uu,Uv];rw[e6,e7];clear hR s cy k4 d3 cn d6 d2 c4 bp c5 e6 e7 F cf bj D hk rb hc Gk l c3 ds nk hs nr hQ Q2 ct;refine hG (bc.setCells d9 0 [.slice (some ⟨ga,oa,none⟩) n ca,.slice (some ⟨gb,ob,none⟩) n cb,sZ gc mc cc]) λhr k8=>?_
 have f:=mk1 (bg.put 9 k8);refine PW.st k8 (Hid.mk' rfl) (bg.th 9) iGr kR ?_;clear bg;refine PW.dn ?_;have ej:Hid (∀W,UH prog 122 #[vp,vV,iZ n,vx,vy,vz] W (rZ W λe w'=>e=.bool true)):=λW=>by
  rw[<-E.out,<-h8.out,<-h5.out,<-R.out,<-h0.out];exact Lq C O d hP hN hw p ok V Vp P1 P2 hV Z h2 tau tt x y z hu ht W X hX hY
 have G1:Gd N n 1 (gGT P) v0.g:=by rw[ei];exact vE C hP.1 n
 have G2:Gd N n 1 (oQ N y.val (hGT P)) v0.h:=by rw[ek];exact Jr C d hP y n
 have G3:Tl N ((uGT P).map (tmT N wf.val)) u:=by rw[eu];exact(mR C hP.1).tm C d wf
 have G4:((uGT P).map (tmT N wf.val)).length=1:=by rw[UQ];rfl
 obtain⟨lh,dk,et,d1⟩:=RS C O d hP hN b5 kd p ok PA PS hA hS mu tt x y z hm ht (gGT P) (oQ N y.val (hGT P)) ((uGT P).map (tmT N wf.val)) v0.g v0.h u G1 G2 G3 G4;rw[<-en]at dk;rw[E.out,h5.out,R.out,h0.out]at d1;refine hG (U3 #[.slice (some ⟨ga,oa,none⟩) n ca,.slice (some ⟨gb,ob,none⟩) n cb,sZ gc mc cc]) λvg b3=>?_
 rw[b3.out]at f;have dd:=(f.at_ 4).1;refine Uz ?_;have l:Hid (∀ {k:Nat}{c:List Ut}{W:Ur},Row hr k c->k≠r->SP.Only r 0 32 hr W->Row W k c):=λZ h2 h3=>aV Z h3.size (h3.block _ Z.1 h2)
 have bm:b6≠r:=(row_ne f.out.nd 3 4 dC rfl rfl)
 have n3:k3≠r:=(row_ne f.out.nd 0 4 dC rfl rfl)
 have n9:k9≠r:=(row_ne f.out.nd 2 4 dC rfl rfl)
 have es:b7≠r:=(row_ne f.out.nd 5 4 dC rfl rfl)
 have bu:be≠r:=(row_ne f.out.nd 6 4 dC rfl rfl)
 have ec:dz≠r:=(row_ne f.out.nd 7 4 dC rfl rfl)
 have bq:bn≠r:=(row_ne f.out.nd 8 4 dC rfl rfl)
 have cx:d9≠r:=(row_ne f.out.nd 9 4 dC rfl rfl)
 refine AW.beg 20 20 (Iv.only dd) (SP.Only.of_below (⟨rfl,rfl,rfl,Uw _,λ_ _=>rfl⟩:kZ hr hr.drew) rfl dd) ?_;refine AW.ro 0 (cs:=p.l) (λW h=>(l.out (f.at_ 3) bm h).2.1) E uRd h6 ?_;refine AW.ro 1 (λW h=>(l.out (f.at_ 0) n3 h).2.1) h8 uCP iV ?_;refine AW.mv 2 ?_;refine AW.ro 3 (λW h=>(l.out (f.at_ 8) bq h).2.1) h5 u40 i40 ?_;refine AW.ro 4 (λW h=>(l.out (f.at_ 6) bu h).2.1) R u40 i40 ?_;refine AW.ro 5 (λW h=>(l.out (f.at_ 7) ec h).2.1) h0 u40 i40 ?_;refine AW.gi 6 (λ_=>ej.out _) λed d5=>?_
 have k7:=mk1 (f.drew.grow d5);refine AW.mv 7 ?_;refine AG.ro 8 (cs:=inL kl kr t a.val b.val) (λW h=>(l.out (f.at_ 2) n9 h).2.1) hvI uIl (iIl _ _ _ _ _) ?_;refine AG.ro 9 (cs:=[jZ r]) (λW h=>(l.out (f.at_ 5) es h).2.1) (Hid.mk' rfl) uLg iLg ?_;refine AG.ro 10 (cs:=[.slice (some ⟨ga,oa,none⟩) n ca,.slice (some ⟨gb,ob,none⟩) n cb,sZ gc mc cc]) (λW h=>(l.out (f.at_ 9) cx h).2.1) b3 uGr iGr ?_;refine AG.ro 11 (cs:=p.l) (λW h=>(l.out (f.at_ 3) bm h).2.1) E uRd h6 ?_;refine AG.ro 12 (cs:=[.slice (some ⟨ga,oa,none⟩) n ca,.slice (some ⟨gb,ob,none⟩) n cb,sZ gc mc cc]) (λW h=>(l.out (f.at_ 9) cx h).2.1) b3 uGr iGr ?_;refine AG.mv 13 ?_;refine AG.ro 14 (λW h=>(l.out (f.at_ 8) bq h).2.1) h5 u40 i40 ?_;refine AG.ro 15 (λW h=>(l.out (f.at_ 6) bu h).2.1) R u40 i40 ?_;refine AG.ro 16 (λW h=>(l.out (f.at_ 7) ec h).2.1) h0 u40 i40 ?_;refine AG.cw 17 (λ_=>d1 _ vg ed (k7.get 4)) (λe w' hJ h=>SP.Only.trans hJ (SP.Only.of_below h.1 rfl (k7.at_ 4).1)) ?_;rintro sv ba ⟨cu,er⟩;simp only[UN,Us,Uu,Uv];have J:=mk1 (k7.grow cu);have em:Hid (UH prog 123 #[vI,lgV r,vg,sv] ba (Ret λe w'=>SP.Only r 0 32 ba w'/\e=.bool true)):=by
  obtain⟨Q,hQ⟩:=J.out.q;have nr:∀g,Q g->g≠r:=J.ne hQ 4;have f1:=(k7.at_ 4).1;rw[<-hvI.out];exact LQ C O d hP t c6 Lp Tp v0 u (gGT P) (oQ N y.val (hGT P)) ((uGT P).map (tmT N wf.val)) lh (by rw[<-hw.1];exact G1) (by rw[<-hw.1];exact G2) G3 (by rw[G4];decide) (by rw[G4];decide) dk et Lb Rb c7 cd r kl kr a b vg sv ba (by rw[d0,k0.out];exact J.log 4) (by rw[d0,k0.out];exact s9) (PtL.mono2 (J.uP hQ 0) λg _ S=>nr g S) (PtL.mono2 (J.uP hQ 1) λg _ S=>nr g S) (by rw[<-hw.1];exact GRq.mono (J.uP hQ 4) nr) (er.q.mono λg S=>oM) true (by simp only[true_iff];exact eg)
 refine AG.cw 18 (λ_=>em.out) (λe w' hJ h=>SP.Only.trans hJ h.1) ?_;rintro e f0 ⟨dq,rfl⟩;simp only[UN,Us,Uu,Uv];refine AW.nx 19 (.bool true) ?_;refine AW.nx 20 (.bool true) ?_;refine AW.dn λ_=>?_
 have hF:=J.bl.trans (wY dq J.bl.size (J.rw (r,aA L9) (VJ (i:=4) rfl)).1);go_wp2;go_ret;exact⟨_,rfl,hF,rfl⟩
end
end Go.Proofs.YtdoammpgchejcaaGreat
