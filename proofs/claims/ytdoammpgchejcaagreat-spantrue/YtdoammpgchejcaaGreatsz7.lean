import Derived.Deep.AppendSrc
import Derived.Test.YtdoammpgchejcaaGreatsz6
set_option linter.unusedVariables false
set_option linter.constructorNameAsVariable false
set_option linter.unusedSimpArgs false
set_option maxRecDepth 1000000
set_option maxHeartbeats 4000000
namespace Go.Proofs.YtdoammpgchejcaaGreat
open EC NT RG SP
open _root_.And renaming intro->V3
open _root_.Array renaming any_eq_true'->XQ,getD_eq_getD_getElem?->UI,getElem?_eq_getElem->U0,getElem?_eq_some_iff->UZ,length_toList->UK,replicate->UJ,setIfInBounds_comm->Z8,toList_replicate->Y5
open _root_.Bool renaming and_eq_true->UL,and_true->yBC,false_or->yAe,not_eq_true'->yAV,not_true->yBB,or_eq_true->Xx
open _root_.Go renaming Addr->Ww,Calls->UH,Exit->Yq,FuncId->Xs,Oper->Vk,Operand->XI,Program->VD,Tmp->WF,TypeId->U8,Value->Ut,World->Ur,bodyPost_ret->UE,execOp->U5,run_loadVar_mid->Yg,wpList_load_mid->U6,wpList_plain->Xi,wpList_store_mid->U2,wp_seq->Uz
open _root_.Go.Act renaming put->UN
open _root_.Go.Code renaming region->V6
open _root_.Go.Instr renaming box->Ve,buildSlice->Vy,indexAt->Vl
open _root_.Go.Next renaming value->Xr
open _root_.Go.Oper renaming semAt_some->Zf,upon_enter->Xb,wp->VT
open _root_.Go.Region renaming binds->VP,noSelect->XN,ready->U7,wanted->V4
open _root_.Go.RowKit.Below renaming refl->UR
open _root_.Go.Sem renaming run_bind->UV
open _root_.Go.Value renaming agg->U3
open _root_.Go.World renaming cell?_of_block->UW,rangeAt->YU,size_alloc->UB
open _root_.List renaming all_cons->Zv,all_eq_true->Va,all_nil->ZM,all_toArray->Yc,cons_append->Xc,drop->Xo,getElem?_cons_succ->U9,getElem?_cons_zero->Vf,getElem?_eq_some_iff->UF,getElem?_map->Vz,getElem?_toArray->Vg,getElem_map->Xf,length_append->UA,length_map->UQ,map_append->Wq,mem_append->WB,mem_cons->VX,mem_map->Vn,mem_of_getElem?->VJ,mem_range->V0,mem_singleton->WO,nil_append->Xt,nodup_append->YY,not_mem_nil->UY,pairwise_iff_getElem->Z5,range->VG,replicate->VB,setIfInBounds_toArray->Us,set_cons_succ->Uu,set_cons_zero->Uv,size_toArray->VC,take->Xn
open _root_.Nat renaming add_zero->XD,div_eq_of_lt->Xg,le_refl->Uw,le_trans->UC,lt_of_lt_of_le->Ux,lt_or_ge->Ws,mod_eq_of_lt->US,mod_lt->V7,mul_add_div->yBn,mul_comm->Vv,ne_of_gt->We,one_mul->Xk,one_pos->yBX,pow_le_pow_right->VA,pow_pos->XK,pow_succ->V9,reduceAdd->VK,zero_add->UD,zero_le->WA,zero_mod->YO
open _root_.Ne renaming symm->YD
open _root_.Option renaming isSome_iff_exists->Vr,map_eq_some_iff->Uy
open _root_.Or renaming inl->U4,inr->UX
open _root_.Prod renaming mk->V8
open Go.Proofs.Tryz
variable {args:Array Ut}{us:List Ut}{e id j:Nat}{B:Nat->Bs}{Q':Nat->Prop}{f:Xs}
section
open Go.RowKit Go.Sort Go.Deep
variable {N:Nat}
theorem OJ(r:Nat)(L:Bs)(k:ByteArray)(g:Option Ww)(d f:Nat)(b:List UInt8)(w:Ur)(c:k.size<=1048576)(m:Holds encB w r 0 L)(i:L.size=32)(j:PartOk w (.slice g d f) b):
 UH prog 145 #[jZ r,.string k,.slice g d f] w (Ret λe w'=>e=.tuple #[]/\SP.Only r 0 32 w w'/\Holds encB w' r 0 (uN L k.data.toList b)):=
 (Bq r L k g d f b w c (OG m) i j).mono λ_ _ ⟨l,o,n⟩=>⟨_,l,rfl,o,OE n⟩
def bgL(V:Bs)(n:Nat)(A S:Bs):Bs:=jW [102,105,114,115,116] [115,101,99,111,110,100] (uN (uN (newL [114,97,110,103,101]) [99,111,109,109,105,116] V.toList) [98,105,116,115] [bV n 1]) A S
structure BgI(w W:Ur)(k r:Nat)(p:Rp)(V:Bs)(y z:Nat)(L:Bs):Prop where
 bl:kZ w W
 r3:Row W k p.l
 r4:Row W (k+1) (aA V)
 r6:Row W (k+2) [jZ r]
 r7:Row W (k+3) (wn y)
 r8:Row W (k+4) (wn z)
 rk:w.heap.size=k/\k+5<=r
 lg:Holds encB W r 0 L
 ls:L.size=32
section
variable {w W W':Ur}{k r:Nat}{p:Rp}{V:Bs}{y z:Nat}{L L':Bs}
theorem BgI.lt(h:BgI w W k r p V y z L):r<W.heap.size:=Holds.lt h.lg (by rw[h.ls];decide)
theorem BgI.grow(h:BgI w W k r p V y z L)(b:kZ W W'):BgI w W' k r p V y z L:=
 ⟨h.bl.trans (b.mono h.bl.size),h.r3.below b,h.r4.below b,h.r6.below b,h.r7.below b,h.r8.below b,h.rk,Holds.below h.lg b h.lt,h.ls⟩
theorem BgI.say(h:BgI w W k r p V y z L)(b:SP.Only r 0 32 W W')(d:Holds encB W' r 0 L')(c:L'.size=32):BgI w W' k r p V y z L':=by
 have f:=h.rk.2;have e:=h.rk.1;exact⟨h.bl.trans (wY b h.bl.size oM),h.r3.only b oM,h.r4.only b oM,h.r6.only b oM,h.r7.only b oM,h.r8.only b oM,h.rk,d,c⟩
theorem BgI.put(h:BgI w W k r p V y z L)(b c:Nat)(j:Nat)(us:List Ut)(g:j<5)(d:Row (W.setCells (k+j) 0 us) (k+2) [jZ r])(f:Row (W.setCells (k+j) 0 us) (k+3) (wn b))(e:Row (W.setCells (k+j) 0 us) (k+4) (wn c))(m:2<=j):BgI w (W.setCells (k+j) 0 us) k r p V b c L:=by
 have l:=h.rk.2;have i:=h.rk.1;exact⟨RG.below_setCells oM _ _ _ h.bl,aR h.r3 oM,aR h.r4 oM,d,f,e,h.rk,fE h.lg oM,h.ls⟩
theorem BgI.p6(h:BgI w W k r p V y z L)(e:Hid (W.setCells (k+2) 0 [jZ r]=W')):BgI w W' k r p V y z L:=by
 rw[<-e.out];exact h.put y z 2 _ oM (h.r6.put rfl) (aR h.r7 oM) (aR h.r8 oM) oM
theorem BgI.p7(h:BgI w W k r p V y z L){b:Nat}(e:Hid (W.setCells (k+3) 0 (wn b)=W')):BgI w W' k r p V b z L:=by
 rw[<-e.out];exact h.put b z 3 _ oM (aR h.r6 oM) (h.r7.put rfl) (aR h.r8 oM) oM
theorem BgI.p8(h:BgI w W k r p V y z L){b:Nat}(e:Hid (W.setCells (k+4) 0 (wn b)=W')):BgI w W' k r p V y b L:=by
 rw[<-e.out];exact h.put y b 4 _ oM (aR h.r6 oM) (aR h.r7 oM) (h.r8.put rfl) oM
end
theorem BR{P:VD}{w:Func}{tmps:Array Ut}{W:Ur}{k r:Nat}{vs n:List Ut}(t x l:WF)(T m c:U8)(z:w.results=#[.cell t T,.cell x m,.cell l c])(h:Row W k vs)(E:Row W r us)(s:Row W e n)(y:tmps[t]? = some (jZ k))(u:tmps[x]? = some (jZ r))(j:tmps[l]? = some (jZ e))
 (o:(P.underlying T).map (·.isRow)=some true) (D:(P.info? T).map (·.size)=some vs.length) (f:(P.underlying m).map (·.isRow)=some true) (v:(P.info? m).map (·.size)=some us.length) (b:(P.underlying c).map (·.isRow)=some true) (g:(P.info? c).map (·.size)=some n.length):(results w tmps).run P W=.ok (.tuple #[.agg vs.toArray,.agg us.toArray,.agg n.toArray]) W:=by
 obtain⟨d,o,hd⟩:=Uy.1 o;obtain⟨A,f,q⟩:=Uy.1 f;obtain⟨p,b,i⟩:=Uy.1 b;have B:=Yg (P:=P) W k 0 T vs d h.2.1 o hd D;have a:=Yg (P:=P) W r 0 m us A E.2.1 f q v;have C:=Yg (P:=P) W e 0 c n p s.2.1 b i g;unfold results;simp[z,y,u,j,B,a,C,asAddr]
theorem NY(O:Ord N)(p:Rp)(hp:p.Ok)(V:Bs)(hV:V.size=33)(n:Nat)(hn:n<256)(w:Ur):
 UH prog 68 #[.agg p.l.toArray,pvl V,iZ n] w (rZ w λe w'=>∃r,e=.tuple #[lgV r,nv (chS N (bgL V n p.a p.s)),nv (chS N (bB (bgL V n p.a p.s)))]/\w.heap.size<=r/\Holds encB w' r 0 (bB (bB (bgL V n p.a p.s)))):=by
 obtain⟨L0,m⟩:=hE (newL [114,97,110,103,101]);obtain⟨L1,Q⟩:=hE (uN L0 [99,111,109,109,105,116] V.toList);obtain⟨L2,B⟩:=hE (uN L1 [98,105,116,115] [bV n 1]);have e3:bgL V n p.a p.s=jW [102,105,114,115,116] [115,101,99,111,110,100] L2 p.a p.s:=by unfold bgL;rw[m.out,Q.out,B.out]
 have s0:L0.size=32:=by rw[<-m.out];exact zY _
 have s1:L1.size=32:=by rw[<-Q.out];exact kP _ _ _
 have s2:L2.size=32:=by rw[<-B.out];exact kP _ _ _
 obtain⟨L3,K⟩:=hE (jW [102,105,114,115,116] [115,101,99,111,110,100] L2 p.a p.s);obtain⟨U,a⟩:=hE (bB L3);obtain⟨L5,t⟩:=hE (bB U);have s4:U.size=32:=by rw[<-a.out];exact bE _ _
 have s5:L5.size=32:=by rw[<-t.out];exact bE _ _
 obtain⟨y,hy⟩:=hE (chS N L3);obtain⟨z,hz⟩:=hE (chS N U);rw[e3,K.out,a.out,t.out,hy.out,hz.out];have HA:Hid (∀(r:Nat) (W:Ur),Holds encB W r 0 L2->UH prog 146 #[lgV r,.string ⟨#[102,105,114,115,116]⟩,pvl p.a,.string ⟨#[115,101,99,111,110,100]⟩,pvl p.s] W (Ret λe w'=>SP.Only r 0 32 W w'/\Holds encB w' r 0 U/\e=nv y)):=λr W h=>by
  rw[<-hy.out,<-a.out,<-K.out];exact sW O r L2 p.a p.s ⟨#[102,105,114,115,116]⟩ ⟨#[115,101,99,111,110,100]⟩ dC dC hp.a hp.s W h s2
 have HC:Hid (∀(r:Nat) (W:Ur),Holds encB W r 0 U->UH prog 147 #[lgV r] W (Ret λe w'=>SP.Only r 0 32 W w'/\Holds encB w' r 0 L5/\e=nv z)):=λr W h=>by
  rw[<-hz.out,<-t.out];exact yF O r U W h s4
 have HN:Hid (∀W:Ur,UH prog 144 #[.string ⟨#[114,97,110,103,101]⟩] W (rZ W λe w'=>∃r,e=lgV r/\W.heap.size<=r/\r<w'.heap.size/\Holds encB w' r 0 L0)):=λW=>by
  rw[<-m.out];exact GG ⟨#[114,97,110,103,101]⟩ W dC
 clear K a t hy hz m e3;obtain⟨k,hk⟩:=hE (w.heap.size);obtain⟨Y,o⟩:=hE (w.alloc (.cells p.l.toArray 137));obtain⟨w2,s⟩:=hE (Y.alloc (.cells (aA V).toArray 103));obtain⟨w3,A⟩:=hE (w2.alloc (.cells [.pointer none].toArray 145));obtain⟨w4,i⟩:=hE (w3.alloc (.cells (RG.z 4).toArray 49));obtain⟨w5,q⟩:=hE (w4.alloc (.cells (RG.z 4).toArray 49));have z1:Hid (Y.heap.size=k+1):=by rw[<-o.out,UB,hk.out];rfl
 have z2:Hid (w2.heap.size=k+2):=by rw[<-s.out,UB,z1.out];rfl
 have z3:Hid (w3.heap.size=k+3):=by rw[<-A.out,UB,z2.out];rfl
 have z4:Hid (w4.heap.size=k+4):=by rw[<-i.out,UB,z3.out];rfl
 have z5:Hid (w5.heap.size=k+5):=by rw[<-q.out,UB,z4.out];rfl
 have f1:=aN hk o;have f2:=aN z1 s;have f3:=aN z2 A;have f4:=aN z3 i;have f5:=aN z4 q;have J:=f4.1.trans (f5.1.mono f4.1.size);have M:=f3.1.trans (J.mono f3.1.size);have R:=f2.1.trans (M.mono f2.1.size);have F:=mk6 (f1.1.trans (R.mono f1.1.size)) (f1.2.below R) (f2.2.below M) (f3.2.below J) (f4.2.below f5.1) f5.2;obtain⟨vp,h0⟩:=hE (U3 p.l.toArray);obtain⟨vV,h4⟩:=hE (pvl V);have B1:Hid ((Ve 137 vp).run prog w=.ok (jZ k) Y):=by rw[<-h0.out,<-o.out,<-hk.out];exact J3 hp w
 have B2:Hid ((Ve 103 vV).run prog Y=.ok (.pointer (some ⟨k+1,0,none⟩)) w2):=by rw[<-h4.out,<-s.out,<-z1.out];exact rM hV Y
 rw[h0.out,h4.out];have HP:=mk2 hp hV;clear f1 f2 f3 f4 f5 J M R;go_enter func68,ntmps68;go_wp2_with (first|(refine aF (u:=vp) (v:=jZ k) (w':=Y) rfl _ (.tmp 0) rfl ?_ ?_ ?_;rfl;exact B1.out)|(refine aF (u:=vV) (v:=.pointer (some ⟨k+1,0,none⟩)) (w':=w2) rfl _ (.tmp 1) rfl ?_ ?_ ?_;rfl;exact B2.out)|(refine alR 6 z2 A ?_)|(refine alR 7 z3 i ?_)|(refine alR 8 z4 q ?_)|fail)
 refine(HN w5).mono ?_;rintro e w6 ⟨uu,rfl,b,r,rfl,H,ha,c⟩;obtain⟨w7,T⟩:=hE (w6.setCells (k+2) 0 [jZ r]);have h1:=mk1 (F.2.2.2.1.below b).2.2;have K7:Hid (BgI w w7 k r p V 0 0 L0):=by
  rw[z5.out]at H;rw[<-T.out];have d:=hk.out;exact⟨RG.below_setCells (by omega) _ _ _ (F.1.trans (b.mono F.1.size)),aR (F.2.1.below b) (by omega),aR (F.2.2.1.below b) (by omega),(F.2.2.2.1.below b).put rfl,aR (F.2.2.2.2.1.below b) (by omega),aR (F.2.2.2.2.2.below b) (by omega),⟨hk.out,H⟩,fE c (by omega),s0⟩
 clear F b H ha c z1 z2 z3 z4 z5 o s A i q B1 B2 HN;unfold lgV;go_wp2_with (first|(refine stR 6 T (Hid.mk' rfl) h1.out iLg kR ?_)|fail)
 clear h1 T;refine AW.begin 4 4 ?_;refine AW.va 0 (.pointer (some ⟨k+2,0,none⟩)) ?_;refine AW.va 1 (.pointer (some ⟨k+2,0,none⟩)) ?_;refine AW.ce 2 uLp (λW l=>(K7.grow l).r6.2.1 0 _ rfl) ?_;refine AW.va 3 (.slice (some ⟨k+1,0,none⟩) 33 33) ?_;refine AW.fc (λl=>OJ r L0 ⟨#[99,111,109,109,105,116]⟩ (some ⟨k+1,0,none⟩) 33 33 V.toList _ dC (K7.grow l).lg s0 (wO HP.2 (K7.grow l).r4)) ?_;rintro e w8 l ⟨rfl,g,c⟩;rw[show(⟨#[99,111,109,109,105,116]⟩:ByteArray).data.toList=[99,111,109,109,105,116] from rfl,Q.out]at c;have K8:=mk1 ((K7.grow l).say g c s1);clear K7 l g c;have c6:w8.cell? ⟨k+2,0,none⟩=some (jZ r):=K8.r6.2.1 0 _ rfl;have he:∀W:Ur,(convert 3 5 (iZ n)).run prog W=.ok (.int .u8 (SP.ub (bV n 1))) W:=λW=>by
  have d:(n:Int)%256=SP.ub (bV n 1):=xK n;rw[<-d];rfl
 have HL:=mk1 (rfl:bV n 1=bV n 1);generalize bV n 1=G at B he;obtain⟨w9,S⟩:=hE (w8.alloc (.cells #[.int .u8 (SP.ub G)] 5));obtain⟨k9,h5⟩:=hE (w8.heap.size);have Z:Hid ((Vy 23 1 #[(0,.int .u8 (SP.ub G))]).run prog w8=.ok (sZ k9 1 1) w9):=by rw[<-S.out,<-h5.out];show _=_;kernel_rfl
 have f9:Hid (kZ w8 w9/\Row w9 k9 [.int .u8 (SP.ub G)]):=by rw[<-S.out,<-h5.out];exact⟨aC _ _,aE w8 [.int .u8 (SP.ub G)] 5⟩
 have K9:=mk2 (K8.grow f9.1) (show PartOk w9 (sZ k9 1 1) [G] from⟨_,k9,0,1,#[G],rfl,rfl,Uw _,(by show 1<=1099511627776;decide),UX ⟨rfl,λj hj=>by
  obtain rfl:j=0:=by simp at hj;omega
  exact⟨f9.2.2.1 0 _ rfl,(f9.2.2.2 0 yBX).2⟩⟩⟩)
 go_wp2_with (first|(refine inR 20 (Vy 23 1 #[(0,.int .u8 (SP.ub G))]) Z.out ?_)|fail)
 refine(OJ r L1 ⟨#[98,105,116,115]⟩ (some (aZ k9)) 1 1 [G] w9 dC K9.1.lg s1 K9.2).mono ?_;rintro e hc ⟨uu,rfl,rfl,g,c⟩;rw[show(⟨#[98,105,116,115]⟩:ByteArray).data.toList=[98,105,116,115] from rfl,B.out]at c;have KA:=mk1 (K9.1.say g c s2);clear K9 g c K8 f9 Z S c6;obtain⟨vl,d⟩:=hE (lgV r);obtain⟨vA,hvA⟩:=hE (pvl p.a);obtain⟨vS,h7⟩:=hE (pvl p.s);have iA:(prog.info? 103).map (·.size)=some (aA p.a).length:=by rw[aB HP.1.a];exact iCP
 have iS:(prog.info? 103).map (·.size)=some (aA p.s).length:=by rw[aB HP.1.s];exact iCP
 have H7:=Rp.at7 HP.1 KA.r3.2.1;have P:=mk1 (HA r hc KA.lg);rw[d.out,hvA.out,h7.out]at P;go_wp2_with (first|(refine ldR 6 KA.r6.2.1 d uLg iLg ?_)|(refine ldR 23 H7.1 hvA uCP iA ?_)|(refine ldR 25 H7.2.1 h7 uCP iS ?_)|fail)
 refine P.mono ?_;clear P H7;rintro e h8 ⟨uu,rfl,g,c,rfl⟩;have KB:=mk1 (KA.say g c s4);clear KA g c;obtain⟨h2,f⟩:=hE (h8.setCells (k+3) 0 (wn y));obtain⟨vy,x⟩:=hE (nv y);rw[x.out];go_wp2_with (first|(refine stR 7 f x KB.r7.2.2 i40 (aM y) ?_)|fail)
 have KC:=mk1 (KB.p7 f);clear KB f;refine AW.beg 6 6 ⟨λW=>∃z L,BgI w W k r p V y z L,λ_ _ l ⟨z,L,h⟩=>⟨z,L,h.grow l⟩,true⟩ ⟨_,_,KC.grow ⟨rfl,rfl,rfl,Uw _,λ_ _=>rfl⟩⟩ ?_;refine AW.ro 0 (λW ⟨_,_,h⟩=>h.r6.2.1) d uLg iLg ?_;refine AW.ro 1 (λW ⟨_,_,h⟩=>h.r7.2.1) x u40 i40 ?_;refine AW.ro 2 (λW ⟨_,_,h⟩=>h.r6.2.1) d uLg iLg ?_;have KD:=mk1 (KC.grow (W':=h2.drew) ⟨rfl,rfl,rfl,Uw _,λ_ _=>rfl⟩);have I:=mk1 (HC r h2.drew KD.lg);rw[d.out]at I;refine AW.cw 3 (λ_=>I.out) (λe w' _ h=>⟨_,_,KD.say h.1 h.2.1 s5⟩) ?_;rintro e h9 ⟨g,c,rfl⟩;simp only[UN,Us,Uu,Uv];have KE:=mk1 (KD.say g c s5);clear KD g c I;obtain⟨hg,D⟩:=hE (h9.setCells (k+2) 0 [jZ r]);obtain⟨hi,C⟩:=hE (hg.setCells (k+3) 0 (wn y));obtain⟨hl,E⟩:=hE (hi.setCells (k+4) 0 (wn z));have KF:=mk1 (KE.p6 D);have KG:=mk1 (KF.p7 C);have X:=mk1 (KG.p8 E);obtain⟨vz,h6⟩:=hE (nv z);rw[h6.out];refine AW.ss 4 d kR iLg D (λ_=>⟨KE.r6.2.2,_,_,KF.out⟩) ?_;refine AW.ss 5 x (aM y) i40 C (λ_=>⟨KF.r7.2.2,_,_,KG.out⟩) ?_;refine AW.fi (us:=wn z) h6 (aM z) i40 (λ_=>⟨KG.r8.2.2,?_⟩);rw[E.out];go_wp2_with fail
 refine UE (BR 6 7 8 145 49 49 rfl X.r6 X.r7 X.r8 rfl rfl rfl uLg iLg u40 i40 u40 i40) rfl ?_;exact⟨_,rfl,X.bl,r,rfl,by have:=X.rk;omega,X.lg⟩
structure MdI(w W:Ur)(k r:Nat)(p:Rp)(y:Nat)(L:Bs):Prop where
 on:SP.Only r 0 32 w W
 r2:Row W k p.l
 r3:Row W (k+1) [jZ r]
 r4:Row W (k+2) (wn y)
 rk:w.heap.size=k/\r<k
 lg:Holds encB W r 0 L
 ls:L.size=32
section
variable {w W W':Ur}{k r:Nat}{p:Rp}{y:Nat}{L L':Bs}
theorem MdI.lt(h:MdI w W k r p y L):r<W.heap.size:=Holds.lt h.lg (by rw[h.ls];decide)
theorem MdI.grow(h:MdI w W k r p y L)(b:kZ W W'):MdI w W' k r p y L:=
 ⟨h.on.trans (SP.Only.of_below b rfl h.lt),h.r2.below b,h.r3.below b,h.r4.below b,h.rk,Holds.below h.lg b h.lt,h.ls⟩
theorem MdI.say(h:MdI w W k r p y L)(b:SP.Only r 0 32 W W')(d:Holds encB W' r 0 L')(c:L'.size=32):MdI w W' k r p y L':=by
 have:=h.rk;exact⟨h.on.trans b,h.r2.only b oM,h.r3.only b oM,h.r4.only b oM,h.rk,d,c⟩
theorem MdI.put(h:MdI w W k r p y L){b:Nat}(e:Hid (W.setCells (k+2) 0 (wn b)=W')):MdI w W' k r p b L:=by
 have:=h.rk;rw[<-e.out];exact⟨jF h.on h.rk.1 h.rk.2 oM,aR h.r2 oM,aR h.r3 oM,h.r4.put rfl,h.rk,fE h.lg oM,h.ls⟩
theorem Ja(u:p.Ok)(s:Holds encB w r 0 L)(t:L.size=32):∃k c d q,Hid (w.heap.size=k)/\Hid (d.heap.size=k+2)/\Hid (d.alloc (.cells (RG.z 4).toArray 49)=q)/\Hid ((Ve 137 (.agg p.l.toArray)).run prog w=.ok (jZ k) c)/\Hid ((Ve 145 (lgV r)).run prog c=.ok (.pointer (some ⟨k+1,0,none⟩)) d)/\Hid (MdI w q k r p 0 L):=by
 have l:=Holds.lt s (by rw[t];decide);have j:=aN (T:=137) (Hid.mk' (rfl:w.heap.size=_)) (Hid.mk' (rfl:w.alloc (.cells p.l.toArray 137)=_));have g:(w.alloc (.cells p.l.toArray 137)).heap.size=w.heap.size+1:=UB _ _;have m:=Nb r (w.alloc (.cells p.l.toArray 137));generalize o:w.alloc (.cells p.l.toArray 137)=c at j g m;have f2:=aN (T:=145) (z:=[jZ r]) (Hid.mk' g) (Hid.mk' rfl);have n:(c.alloc (.cells [jZ r].toArray 145)).heap.size=w.heap.size+2:=by rw[UB,g]
 rw[g]at m;have f:(Ve 145 (lgV r)).run prog c=.ok (.pointer (some ⟨w.heap.size+1,0,none⟩)) (c.alloc (.cells [jZ r].toArray 145)):=m;generalize c.alloc (.cells [jZ r].toArray 145)=d at f2 n f;have i:=aN (T:=49) (z:=RG.z 4) (Hid.mk' n) (Hid.mk' rfl);refine⟨_,c,d,_,rfl,n,rfl,?_,f,?_⟩
 ·rw[<-o];exact J3 u w
 generalize d.alloc (.cells (RG.z 4).toArray 49)=q at i;have e:=f2.1.trans (i.1.mono f2.1.size);have b:=j.1.trans (e.mono j.1.size);exact⟨SP.Only.of_below b rfl l,j.2.below e,f2.2.below i.1,i.2,⟨rfl,l⟩,Holds.below s b l,t⟩
end
def mdL(L C D:Bs):Bs:=jW [116,104,105,114,100] [102,111,117,114,116,104] L C D
theorem ND(O:Ord N)(p:Rp)(f:p.Ok)(r:Nat)(L:Bs)(w:Ur)(z:Holds encB w r 0 L)(D:L.size=32):
 UH prog 76 #[.agg p.l.toArray,lgV r] w (Ret λe w'=>SP.Only r 0 32 w w'/\Holds encB w' r 0 (bB (mdL L p.c p.d))/\e=nv (chS N (mdL L p.c p.d))):=by
 obtain⟨F,d⟩:=hE (mdL L p.c p.d);obtain⟨G,c⟩:=hE (bB F);obtain⟨x,hx⟩:=hE (chS N F);have s2:G.size=32:=by rw[<-c.out];exact bE _ _
 rw[d.out,c.out,hx.out];have t:Hid (∀(W:Ur),Holds encB W r 0 L->UH prog 146 #[lgV r,.string ⟨#[116,104,105,114,100]⟩,pvl p.c,.string ⟨#[102,111,117,114,116,104]⟩,pvl p.d] W (Ret λe w'=>SP.Only r 0 32 W w'/\Holds encB w' r 0 G/\e=nv x)):=λW h=>by
  rw[<-hx.out,<-c.out,<-d.out];exact sW O r L p.c p.d ⟨#[116,104,105,114,100]⟩ ⟨#[102,111,117,114,116,104]⟩ dC dC f.c f.d W h D
 clear d c hx;obtain⟨k,Q,R,M,Y,J,o,C,y,g⟩:=Ja f z D;obtain⟨P,l⟩:=hE (U3 p.l.toArray);obtain⟨vl,b⟩:=hE (lgV r);obtain⟨V,j⟩:=hE (pvl p.c);obtain⟨T,i⟩:=hE (pvl p.d);rw[l.out]at C;have s:=mk1 (t M g.lg);rw[b.out]at y;rw[b.out,j.out,i.out]at s;rw[l.out,b.out];have H:(prog.info? 103).map (·.size)=some (aA p.c).length:=by rw[aB f.c];exact iCP
 have I:(prog.info? 103).map (·.size)=some (aA p.d).length:=by rw[aB f.d];exact iCP
 have B:=mk1 (Rp.at7 f g.r2.2.1);clear t z;go_enter func76,ntmps76;go_wp2_with (first|(refine aF (u:=P) (v:=jZ k) (w':=Q) rfl _ (.tmp 0) rfl ?_ ?_ ?_;rfl;exact C.out)|(refine aF (u:=vl) (v:=.pointer (some ⟨k+1,0,none⟩)) (w':=R) rfl _ (.tmp 1) rfl ?_ ?_ ?_;rfl;exact y.out)|(refine alR 4 J o ?_)|(refine ldR 3 g.r3.2.1 b uLg iLg ?_)|(refine ldR 6 B.2.2.1 j uCP H ?_)|(refine ldR 8 B.2.2.2.1 i uCP I ?_)|fail)
 refine s.mono ?_;rintro e K ⟨U,rfl,a,E,rfl⟩;have A:=mk1 (g.say a E s2);clear s a E g;obtain⟨X,n⟩:=hE (K.setCells (k+2) 0 (wn x));have q:=mk1 (A.put n);obtain⟨S,m⟩:=hE (nv x);rw[m.out];go_wp2_with (first|(refine stR 4 n m A.r4.2.2 i40 (aM x) ?_)|fail)
 refine UE (aG 4 49 rfl q.r4 rfl u40 i40) rfl ?_;exact⟨_,rfl,q.on,q.lg,rfl⟩
theorem SC(L:Nat->Bs):iJ L 3=(L 0).toList++((L 1).toList++(L 2).toList):=by simp[iJ,List.range_succ]
theorem GF{B n:Nat}{w:Ur}{v:Ut}{x:List UInt8}(h:w.ownsRow B 5 1 v n (x.map encB))(e:0<n)(l:n<=1000000):∃q c,v=.slice q n c/\PartOk w v x:=by
 have f:x.length=n:=by have:=h.1;rw[UQ,Nat.mul_one]at this;exact this
 rcases id h with⟨-,⟨rfl,e⟩|⟨g,cap,cur,rfl,p,d,r,m,o,s⟩⟩
 ·omega
 ·have hx:x.toArray.size=n:=by rw[VC];exact f
  refine⟨_,_,rfl,some (aZ g),g,0,cap,x.toArray,by rw[hx],rfl,by omega,by omega,UX ⟨rfl,λj i=>?_⟩⟩;have k:j<x.length:=by omega
  have b:=h.cells (g:=g) rfl j (encB x[j]) (by rw[Vz,List.getElem?_eq_getElem k];rfl);rw[lH]at b;refine⟨by rw[b,getElem!_pos _ j i];simp;rfl,?_⟩;simp[World.frozen?,d]
theorem SK(g b k:Nat)(w:Ur):(Vy 24 3 #[(0,r32 g),(1,r32 b),(2,r32 k)]).run prog w=.ok (sZ w.heap.size 3 3) (w.alloc (.cells #[r32 g,r32 b,r32 k] 23)):=kR
def enB(u m t:Nat):List UInt8:=(bx u).toList++((bx m).toList++(bx t).toList)
def enL(L:Bs)(u m t:Nat):Bs:=uN L [115,117,109,115] (enB u m t)
theorem ElQ.el{Q:Nat->Prop}{m:Nat}{W:Ur}{x:Ut}{b:Bs}(h:ElQ Q m W x b):El m W x b:=by
 obtain⟨k,c,e,g,f,-,i,d⟩:=h;exact⟨k,c,e,g,f,i,d⟩
theorem NS(O:Ord N)(p:Rp)(hp:p.Ok)(hu:p.u<N)(hm:p.m<N)(ht:p.t<N)(r:Nat)(L:Bs)(w:Ur)(hL:Holds encB w r 0 L)(hl:L.size=32):
 UH prog 81 #[.agg p.l.toArray,lgV r] w (Ret λe w'=>SP.Only r 0 32 w w'/\Holds encB w' r 0 (bB (enL L p.u p.m p.t))/\e=nv (chS N (enL L p.u p.m p.t))):=by
 obtain⟨I,m⟩:=hE (enL L p.u p.m p.t);obtain⟨L2,o⟩:=hE (bB I);obtain⟨x,hx⟩:=hE (chS N I);have s1:I.size=32:=by rw[<-m.out];exact kP _ _ _
 have s2:L2.size=32:=by rw[<-o.out];exact bE _ _
 have HC:Hid (∀(W:Ur),Holds encB W r 0 I->UH prog 147 #[lgV r] W (Ret λe w'=>SP.Only r 0 32 W w'/\Holds encB w' r 0 L2/\e=nv x)):=λW h=>by
  rw[<-hx.out,<-o.out];exact yF O r I W h s1
 rw[m.out,o.out,hx.out];unfold enL enB at m;have c:=λ(a:Nat) (ha:a<N) (W:Ur)=>fW O ha W
 have b1:=λW=>c p.u hu W
 have b2:=λW=>c p.m hm W
 have b3:=λW=>c p.t ht W
 have sz:∀a:Nat,(bx a).size=32:=eE;have i:=mk3 (sz p.u) (sz p.m) (sz p.t);have HB:=mk3 b1 b2 b3;clear b1 b2 b3 c hu hm ht sz o hx;generalize bx p.u=t at *;generalize bx p.m=s at *;generalize bx p.t=q at *;obtain⟨vu,X⟩:=hE (nv p.u);obtain⟨vm,T⟩:=hE (nv p.m);obtain⟨vt,S⟩:=hE (nv p.t);rw[X.out,T.out,S.out]at HB;obtain⟨k,w1,w2,w3,hk,z2,h2,B1,B2,f⟩:=Ja hp hL hl;obtain⟨vp,H⟩:=hE (U3 p.l.toArray);obtain⟨vl,g⟩:=hE (lgV r);rw[H.out]at B1;rw[g.out]at B2;rw[H.out,g.out];clear hL;have HP:=mk1 hp;go_enter func81,ntmps81;go_wp2_with (first|(refine aF (u:=vp) (v:=jZ k) (w':=w1) rfl _ (.tmp 0) rfl ?_ ?_ ?_;rfl;exact B1.out)|(refine aF (u:=vl) (v:=.pointer (some ⟨k+1,0,none⟩)) (w':=w2) rfl _ (.tmp 1) rfl ?_ ?_ ?_;rfl;exact B2.out)|(refine alR 4 z2 h2 ?_)|fail)
 have n3:Hid (k+1≠r):=by have:=f.rk;show _≠_;omega
 have n2:Hid (k≠r):=by have:=f.rk;show _≠_;omega
 refine AW.beg 14 14 (Iv.only f.lt) (SP.Only.of_below (⟨rfl,rfl,rfl,Uw _,λ_ _=>rfl⟩:kZ w3 w3.drew) rfl f.lt) ?_;refine AW.va 0 (.pointer (some ⟨k+1,0,none⟩)) ?_;refine AW.va 1 (.pointer (some ⟨k+1,0,none⟩)) ?_;refine AW.ce 2 uLp (λW b=>(f.r3.only b n3.out).2.1 0 _ rfl) ?_;refine AW.va 3 (oZ k 132) ?_;refine AW.ro 4 (λW b=>(Rp.at7 HP.out (f.r2.only b n2.out).2.1).2.2.2.2.1) X u40 i40 ?_;refine AW.va 6 (oZ k 136) ?_;refine AW.ro 7 (λW b=>(Rp.at7 HP.out (f.r2.only b n2.out).2.1).2.2.2.2.2.1) T u40 i40 ?_;refine AW.va 9 (oZ k 140) ?_;refine AW.ro 10 (λW b=>(Rp.at7 HP.out (f.r2.only b n2.out).2.1).2.2.2.2.2.2) S u40 i40 ?_;refine AW.ca 5 (λ_=>HB.1 _) (λe w' h=>h.1) ?_;rintro e w4 ⟨d,Y,B,rfl⟩;simp only[UN,Us,Uu,Uv];refine AW.ca 8 (λ_=>HB.2.1 _) (λe w' h=>h.1) ?_;rintro e w5 ⟨z,V,D,rfl⟩;simp only[UN,Us,Uu,Uv];refine AW.ca 11 (λ_=>HB.2.2 _) (λe w' h=>h.1) ?_;rintro e A ⟨y,J,E,rfl⟩;simp only[UN,Us,Uu,Uv];have Q:=aC A (.cells #[r32 B,r32 D,r32 E] 23);have G:=aE A [r32 B,r32 D,r32 E] 23;have n:=z.trans (y.mono z.size);have E1:=(Y.keep (Kq.of_below n)).keep (Kq.of_below Q);have E2:=(V.keep (Kq.of_below y)).keep (Kq.of_below Q);have E3:=J.keep (Kq.of_below Q);refine AW.ns 12 (SK B D E A) Q ?_;have l:=mk1 (JO A.heap.size 3 3 (λj=>if j=0 then t else if j=1 then s else q) (by decide) (λj hj=>by
  match j,hj with
  | 0,_=>show t.size<=10000;rw[i.1];decide
  | 1,_=>show s.size<=10000;rw[i.2.1];decide
  | 2,_=>show q.size<=10000;rw[i.2.2];decide) (A.alloc (.cells #[r32 B,r32 D,r32 E] 23)) G.1 λj hj=>by
  match j,hj with
  | 0,_=>exact⟨r32 B,G.2.1 0 _ rfl,by show El t.size _ _ t;rw[i.1];exact E1.el⟩
  | 1,_=>exact⟨r32 D,G.2.1 1 _ rfl,by show El s.size _ _ s;rw[i.2.1];exact E2.el⟩
  | 2,_=>exact⟨r32 E,G.2.1 2 _ rfl,by show El q.size _ _ q;rw[i.2.2];exact E3.el⟩)
 have h0:(iJ (λj=>if j=0 then t else if j=1 then s else q) 3)=t.toList++(s.toList++q.toList):=SC _;rw[h0]at l;have h1:(t.toList++(s.toList++q.toList)).length=96:=by simp only[UA,UK,i.1,i.2.1,i.2.2]
 generalize t.toList++(s.toList++q.toList)=xx at *;rw[h1]at l;have F:=mk1 (((UR _ w3).drew.trans (d.trans (n.mono d.size))).trans (Q.mono (UC d.size n.size)));clear Y V J E1 E2 E3 G d z y n;generalize A.alloc (.cells #[r32 B,r32 D,r32 E] 23)=w7 at *;refine AW.ca 13 (λ_=>l.out) (λe w' h=>h.1) ?_;rintro e w8 ⟨U,P⟩;simp only[UN,Us,Uu,Uv];obtain⟨qa,qc,rfl,M⟩:=GF P (by decide) (by decide);have K8:=mk1 (f.grow (F.trans (U.mono F.size)));refine AW.cw 14 (λ_=>OJ r L ⟨#[115,117,109,115]⟩ qa 96 qc xx w8 dC K8.lg hl M) (λe w' hI h=>hI.trans h.2.1) ?_;rintro e w9 ⟨rfl,b,C⟩;simp only[UN,Us,Uu,Uv];rw[show(⟨#[115,117,109,115]⟩:ByteArray).data.toList=[115,117,109,115] from rfl,m.out]at C;have Z:=mk1 (K8.say b C s1);clear b C P M l U K8;refine AW.dn λ_=>?_
 have HD:=mk1 (HC w9 Z.lg);rw[g.out]at HD;go_wp2_with (first|(refine ldR 3 Z.r3.2.1 g uLg iLg ?_)|fail)
 refine HD.mono ?_;rintro e wA ⟨uu,rfl,b,C,rfl⟩;have KA:=mk1 (Z.say b C s2);clear HD b C Z;obtain⟨wB,R⟩:=hE (wA.setCells (k+2) 0 (wn x));have KB:=mk1 (KA.put R);obtain⟨vx,K⟩:=hE (nv x);rw[K.out];go_wp2_with (first|(refine stR 4 R K KA.r4.2.2 i40 (aM x) ?_)|fail)
 refine UE (aG 4 49 rfl KB.r4 rfl u40 i40) rfl ?_;exact⟨_,rfl,KB.on,KB.lg,rfl⟩
end
section
open Go.RowKit Go.Sort Go.Deep
variable {P:Nat}[NeZero P]{N:Nat}
theorem uAr:(prog.underlying 28).map (·.isRow)=some true:=kR
theorem iAr:(prog.info? 28).map (·.size)=some 11:=kR
theorem SN(a b c d:Ut)(w:Ur):(Ve 26 (.agg #[a,b,c,d])).run prog w=.ok (jZ w.heap.size) (w.alloc (.cells #[a,b,c,d] 26)):=kR
def z11:List Ut:=VB 11 (.slice none 0 0)
structure RgT(Q:Nat->Prop)(W:Ur)(p:Rp)(a b c d e f g:Nat):Prop where
 a:ElQ Q 33 W (r33 a) p.a
 b:ElQ Q 33 W (r33 b) p.s
 c:ElQ Q 33 W (r33 c) p.c
 d:ElQ Q 33 W (r33 d) p.d
 e:ElQ Q 32 W (r32 e) (bx p.u)
 f:ElQ Q 32 W (r32 f) (bx p.m)
 g:ElQ Q 32 W (r32 g) (bx p.t)
theorem RgT.keep{Q:Nat->Prop}{W W':Ur}{p:Rp}{a b c d f g:Nat}(h:RgT Q W p a b c d e f g)(k:Kq Q W W'):RgT Q W' p a b c d e f g:=⟨h.a.keep k,h.b.keep k,h.c.keep k,h.d.keep k,h.e.keep k,h.f.keep k,h.g.keep k⟩
theorem RgT.mono2{Q:Nat->Prop}{W:Ur}{p:Rp}{a b c d f g:Nat}(h:RgT Q W p a b c d e f g)(k:∀g,g<W.heap.size->Q g->Q' g):RgT Q' W p a b c d e f g:=⟨h.a.mono2 k,h.b.mono2 k,h.c.mono2 k,h.d.mono2 k,h.e.mono2 k,h.f.mono2 k,h.g.mono2 k⟩
theorem Ox(O:Ord N)(p:Rp)(X:p.Ok)(hu:p.u<N)(hm:p.m<N)(ht:p.t<N)(o s y z:Ut)(h1:o.oneCell'=true/\s.oneCell'=true/\y.oneCell'=true/\z.oneCell'=true)(w:Ur):
 UH prog 82 #[.agg p.l.toArray,.agg #[o,s,y,z]] w (rZ w λe w'=>∃a b c d u m t,e=.agg #[r33 a,r33 b,r33 c,r33 d,r32 u,r32 m,r32 t,o,s,y,z]/\RgT (w.heap.size<=·) w' p a b c d u m t):=by
 have D:=mk7 (λW=>fZ X.a W) (λW=>fZ X.s W) (λW=>fZ X.c W) (λW=>fZ X.d W) (λW=>fW O hu W) (λW=>fW O hm W) (λW=>fW O ht W);obtain⟨va,h3⟩:=hE (pvl p.a);obtain⟨vs,h7⟩:=hE (pvl p.s);obtain⟨vc,h2⟩:=hE (pvl p.c);obtain⟨vd,h4⟩:=hE (pvl p.d);obtain⟨vu,hc⟩:=hE (nv p.u);obtain⟨vm,h9⟩:=hE (nv p.m);obtain⟨vt,h6⟩:=hE (nv p.t);rw[h3.out,h7.out,h2.out,h4.out,hc.out,h9.out,h6.out]at D;have iP:∀ {b:Bs},b.size=33->(prog.info? 103).map (·.size)=some (aA b).length:=λh=>by rw[aB h];exact iCP
 obtain⟨k,hk⟩:=hE (w.heap.size);obtain⟨Q,H⟩:=hE (w.alloc (.cells p.l.toArray 137));obtain⟨k3,G⟩:=hE (Q.heap.size);obtain⟨w2,J⟩:=hE (Q.alloc (.cells [o,s,y,z].toArray 26));obtain⟨k4,I⟩:=hE (w2.heap.size);obtain⟨C,ha⟩:=hE (w2.alloc (.cells z11.toArray 28));have F:=Nc hk H G J I ha;have h5:w.heap.size<=k4/\k4<C.heap.size:=⟨by rw[<-I.out];exact UC (aN hk H).1.size (aN G J).1.size,F.2.2.2.1⟩
 have i:=mk2 h5 h1;obtain⟨vp,Z⟩:=hE (U3 p.l.toArray);obtain⟨vi,j⟩:=hE (U3 #[o,s,y,z]);have B1:Hid ((Ve 137 vp).run prog w=.ok (jZ k) Q):=by rw[<-Z.out,<-H.out,<-hk.out];exact J3 X w
 have B2:Hid ((Ve 26 vi).run prog Q=.ok (jZ k3) w2):=by rw[<-j.out,<-J.out,<-G.out];exact SN _ _ _ _ Q
 have HP:=mk1 X;rw[Z.out,j.out];clear h5 h1;go_enter func82,ntmps82;go_wp2_with (first|(refine aF (u:=vp) (v:=jZ k) (w':=Q) rfl _ (.tmp 0) rfl ?_ ?_ ?_;rfl;exact B1.out)|(refine aF (u:=vi) (v:=jZ k3) (w':=w2) rfl _ (.tmp 1) rfl ?_ ?_ ?_;rfl;exact B2.out)|(refine alR 4 I ha ?_)|fail)
 have E:∀W,kZ C W->_:=λW f=>Rp.at7 HP.out (F.2.1.below f).2.1
 refine AW.begin 23 23 ?_;refine AW.va 0 (jZ k) ?_;refine AW.ro 1 (λW f=>(E W f).1) h3 uCP (iP HP.a) ?_;refine AW.va 3 (oZ k 33) ?_;refine AW.ro 4 (λW f=>(E W f).2.1) h7 uCP (iP HP.s) ?_;refine AW.va 6 (oZ k 66) ?_;refine AW.ro 7 (λW f=>(E W f).2.2.1) h2 uCP (iP HP.c) ?_;refine AW.va 9 (oZ k 99) ?_;refine AW.ro 10 (λW f=>(E W f).2.2.2.1) h4 uCP (iP HP.d) ?_;refine AW.va 12 (oZ k 132) ?_;refine AW.ro 13 (λW f=>(E W f).2.2.2.2.1) hc u40 i40 ?_;refine AW.va 15 (oZ k 136) ?_;refine AW.ro 16 (λW f=>(E W f).2.2.2.2.2.1) h9 u40 i40 ?_;refine AW.va 18 (oZ k 140) ?_;refine AW.ro 19 (λW f=>(E W f).2.2.2.2.2.2) h6 u40 i40 ?_;refine AW.ro 21 (λW f=>(F.2.2.1.below f).2.1) j Lg Jg ?_;refine AW.ca 2 (λ_=>D.1 _) (λe w' h=>h.1) ?_;rintro e w4 ⟨h0,E1,M,rfl⟩;simp only[UN,Us,Uu,Uv];refine AW.ca 5 (λ_=>D.2.1 _) (λe w' h=>h.1) ?_;rintro e w5 ⟨B,E2,U,rfl⟩;simp only[UN,Us,Uu,Uv];refine AW.ca 8 (λ_=>D.2.2.1 _) (λe w' h=>h.1) ?_;rintro e w6 ⟨l,E3,Y,rfl⟩;simp only[UN,Us,Uu,Uv];refine AW.ca 11 (λ_=>D.2.2.2.1 _) (λe w' h=>h.1) ?_;rintro e w7 ⟨n,E4,V,rfl⟩;simp only[UN,Us,Uu,Uv];refine AW.ca 14 (λ_=>D.2.2.2.2.1 _) (λe w' h=>h.1) ?_;rintro e w8 ⟨A,E5,K,rfl⟩;simp only[UN,Us,Uu,Uv];refine AW.ca 17 (λ_=>D.2.2.2.2.2.1 _) (λe w' h=>h.1) ?_;rintro e w9 ⟨r,E6,P,rfl⟩;simp only[UN,Us,Uu,Uv];refine AW.ca 20 (λ_=>D.2.2.2.2.2.2 _) (λe w' h=>h.1) ?_;rintro e S ⟨h8,E7,R,rfl⟩;simp only[UN,Us,Uu,Uv];rw[<-j.out];refine AW.nx 22 (.agg #[r33 M,r33 U,r33 Y,r33 V,r32 K,r32 P,r32 R,o,s,y,z]) ?_;have b9:=h8;have b8:=r.trans (b9.mono r.size);have b7:=A.trans (b8.mono A.size);have b6:=n.trans (b7.mono n.size);have b5:=l.trans (b6.mono l.size);have b4:=B.trans (b5.mono B.size);have s3:C.heap.size<=w4.heap.size:=h0.size;have q:∀ {W:Ur}{m:Nat}{v:Ut}{b:Bs},C.heap.size<=W.heap.size->ElQ (W.heap.size<=·) m S v b->ElQ (C.heap.size<=·) m S v b:=λhW h=>h.mono2 λg _ L=>UC hW L
 have t5:=UC s3 B.size;have t6:=UC t5 l.size;have t7:=UC t6 n.size;have t8:=UC t7 A.size;have t9:=UC t8 r.size;have T:Hid (RgT (C.heap.size<=·) S p M U Y V K P R):=⟨(E1.keep (Kq.of_below b4)).mono2 λg _ L=>L,q s3 (E2.keep (Kq.of_below b5)),q t5 (E3.keep (Kq.of_below b6)),q t6 (E4.keep (Kq.of_below b7)),q t7 (E5.keep (Kq.of_below b8)),q t8 (E6.keep (Kq.of_below b9)),q t9 E7⟩
 clear q E1 E2 E3 E4 E5 E6 E7 b4 b5 b6 b7 b8 b9 h0 B l n A r h8 s3 t5 t6 t7 t8 t9;refine AW.fi (us:=[r33 M,r33 U,r33 Y,r33 V,r32 K,r32 P,r32 R,o,s,y,z]) (Hid.mk' rfl) (by simp only[Yc,Zv,ZM,i.2.1,i.2.2.1,i.2.2.2.1,i.2.2.2.2,show ∀g,(r33 g).oneCell'=true from λ_=>rfl,show ∀g,(r32 g).oneCell'=true from λ_=>rfl,yBC]) iAr (λf=>?_);obtain⟨wB,x⟩:=hE (S.setCells k4 0 [r33 M,r33 U,r33 Y,r33 V,r32 K,r32 P,r32 R,o,s,y,z]);have r4:=F.2.2.2.below f;have KE:Hid (S.there k4 0 11/\Row wB k4 [r33 M,r33 U,r33 Y,r33 V,r32 K,r32 P,r32 R,o,s,y,z]/\kZ w wB/\RgT (w.heap.size<=·) wB p M U Y V K P R):=by
  have kq:Kq (C.heap.size<=·) S wB:=by rw[<-x.out];exact Kq.set λg L=>by have:=i.1;omega
  refine⟨r4.2.2,by rw[<-x.out];exact r4.put rfl,by rw[<-x.out];exact RG.below_setCells i.1.1 _ _ _ (F.1.trans (f.mono F.1.size)),(T.keep kq).mono2 λg _ L=>UC F.1.size L⟩
 rw[x.out];refine⟨KE.1,?_⟩;go_wp2_with fail
 refine UE (aG 4 28 rfl KE.2.1 rfl uAr iAr) rfl ?_;exact⟨_,rfl,KE.2.2.1,_,_,_,_,_,_,_,rfl,KE.2.2.2⟩
end
section
open Go.RowKit Go.Sort Go.Deep
variable {N:Nat}
structure Pq where
 p:(Nat->Prop)->Ur->Prop
 kp:∀Q W W',Kq Q W W'->p Q W->p Q W'
 mo:∀Q Q' W,(∀g,g<W.heap.size->Q g->Q' g)->p Q W->p Q' W
abbrev pqS(v:Ut)(n:Nat)(a:Nat->Nat):Pq:=⟨λQ W=>SLq Q W v n a,λ_ _ _ k h=>h.keep k,λ_ _ _ m h=>h.mono2 m⟩
abbrev pqG(v:Ut)(n:Nat)(G H:Nat->List (Nat × Bs))(U:List (Nat × Bs)):Pq:=⟨λQ W=>GRq Q W v n G H U,λ_ _ _ k h=>h.keep k,λ_ _ _ m h=>h.mono2 m⟩
abbrev pqM(v:Ut)(l:List (Nat × Bs)):Pq:=⟨λQ W=>SmQ Q W v l,λ_ _ _ k h=>h.keep k,λ_ _ _ m h=>h.mono2 m⟩
def Nk(k:List (Nat × List Ut))(g:Nat):Prop:=g ∉ k.map (·.1)
structure Mp(w W:Ur)(rs:List (Nat × List Ut))(S:List Pq):Prop where
 bl:kZ w W
 rw:∀x∈rs,w.heap.size<=x.1/\Row W x.1 x.2
 nd:(rs.map (·.1)).Nodup
 ob:∀s∈S,s.p (Nk rs) W
namespace Mp
variable {w W W':Ur}{rs rs':List (Nat × List Ut)}{S S':List Pq}{k r i:Nat}{c c':List Ut}{L L':Bs}
theorem start(w:Ur):Mp w w [] []:=⟨UR _ _,λ_ h=>(UY h).elim,List.nodup_nil,λ_ h=>(UY h).elim⟩
theorem grow(h:Mp w W rs S)(k:kZ W W'):Mp w W' rs S:=⟨h.bl.trans (k.mono h.bl.size),λx hx=>⟨(h.rw x hx).1,(h.rw x hx).2.below k⟩,h.nd,λs b=>s.kp _ _ _ (Kq.of_below k) (h.ob s b)⟩
theorem drew(h:Mp w W rs S):Mp w W.drew rs S:=h.grow ⟨rfl,rfl,rfl,Uw _,λ_ _=>rfl⟩
theorem lt(h:Mp w W rs S){g:Nat}(k:g∈rs.map (·.1)):w.heap.size<=g/\g<W.heap.size:=by
 obtain⟨x,hx,rfl⟩:=Vn.1 k;exact⟨(h.rw x hx).1,(h.rw x hx).2.1⟩
theorem nk(h:Mp w W rs S)(g:Nat)(k:W.heap.size<=g):Nk rs g:=λe=>by have:=(h.lt e).2;omega
theorem at_(h:Mp w W rs S)(i:Nat)(b:rs[i]? = some (k,c):=by rfl):Row W k c:=(h.rw _ (VJ b)).2
theorem key(b:rs[i]? = some (k,c)):k∈rs.map (·.1):=Vn.2 ⟨_,VJ b,rfl⟩
theorem get(h:Mp w W rs S)(j:Nat){s:Pq}(k:S[j]? = some s:=by rfl):s.p (Nk rs) W:=h.ob _ (VJ k)
theorem has(h:Mp w W rs S)(s:Pq)(k:s.p (Nk rs) W)(e:S++[s]=S':=by(simp only[Xc,Xt])<;>rfl):Mp w W rs S':=e ▸ ⟨h.bl,h.rw,h.nd,λx hx=>by
 rcases WB.1 hx with hx|hx
 ·exact h.ob x hx
 ·rw[WO.1 hx];exact k⟩
theorem gets(h:Mp w W rs S)(b:kZ W W')(s:Pq)(k:s.p (W.heap.size<=·) W')(e:S++[s]=S':=by(simp only[Xc,Xt])<;>rfl):Mp w W' rs S':=(h.grow b).has s (s.mo _ _ _ (λg _ c=>h.nk g c) k) e
theorem q(_:Mp w W rs S):∃Q,Hid (Nk rs=Q):=⟨_,rfl⟩
theorem uP{Q:Nat->Prop}(h:Mp w W rs S)(b:Hid (Nk rs=Q))(j:Nat){s:Pq}(k:S[j]? = some s:=by rfl):s.p Q W:=by rw[<-b.out];exact h.get j k
theorem nkq{Q:Nat->Prop}(h:Mp w W rs S)(k:Hid (Nk rs=Q))(g:Nat)(b:W.heap.size<=g):Q g:=by rw[<-k.out];exact h.nk g b
theorem MI{Q:Nat->Prop}(h:Mp w W rs S)(k:Hid (Nk rs=Q))(s:Pq)(b:s.p Q W)(e:S++[s]=S':=by(simp only[Xc,Xt])<;>rfl):Mp w W rs S':=h.has s (by rw[k.out];exact b) e
theorem ne{Q:Nat->Prop}(_:Mp w W rs S)(f:Hid (Nk rs=Q))(i:Nat)(d:rs[i]? = some (k,c):=by rfl)(g:Nat)(b:Q g):g≠k:=λe=>by
 rw[<-f.out]at b;exact b (by rw[e];exact Vn.2 ⟨_,VJ d,rfl⟩)
theorem add(h:Mp w W rs S)(i:kZ W W')(m:Row W' k c)(l:W.heap.size<=k)(e:rs++[(k,c)]=rs':=by(simp only[Xc,Xt])<;>rfl):Mp w W' rs' S:=by
 subst e;have f:=h.grow i;refine⟨f.bl,λx hx=>?_,?_,λs n=>?_⟩
 ·rcases WB.1 hx with hx|hx
  ·exact f.rw x hx
  ·rw[WO.1 hx];exact⟨UC h.bl.size l,m⟩
 ·rw[Wq,YY];refine⟨h.nd,by simp,λa j b d e=>?_⟩;have o:=(h.lt j).2;simp at d;omega
 ·refine s.kp _ _ _ (Kq.of_below i) (s.mo _ _ _ (λg j d e=>?_) (h.ob s n));rw[Wq,WB]at e;rcases e with e|e
  ·exact d e
  ·simp at e;omega
theorem adds(h:Mp w W rs S)(i:kZ W W')(ns:List (Nat × List Ut))(k:(ns.map (·.1)).Nodup)(d:∀x∈ns,W.heap.size<=x.1/\Row W' x.1 x.2)(e:rs++ns=rs':=by(simp only[Xc,Xt])<;>rfl):Mp w W' rs' S:=by
 subst e;have l:=h.grow i;have j:∀g,g∈ns.map (·.1)->W.heap.size<=g:=λg f=>by
  obtain⟨x,hx,rfl⟩:=Vn.1 f;exact(d x hx).1
 refine⟨l.bl,λx hx=>?_,?_,λs m=>?_⟩
 ·rcases WB.1 hx with hx|hx
  ·exact l.rw x hx
  ·exact⟨UC h.bl.size (d x hx).1,(d x hx).2⟩
 ·rw[Wq,YY];refine⟨h.nd,k,λa n b c e=>?_⟩;have p:=(h.lt n).2;have o:=j b c;omega
 ·refine s.kp _ _ _ (Kq.of_below i) (s.mo _ _ _ (λg f k e=>?_) (h.ob s m));rw[Wq,WB]at e;rcases e with e|e
  ·exact k e
  ·have:=j g e;omega
theorem new{T:U8}(h:Mp w W rs S)(b:Hid (W.heap.size=k))(d:Hid (W.alloc (.cells c.toArray T)=W'))(e:rs++[(k,c)]=rs':=by(simp only[Xc,Xt])<;>rfl):Mp w W' rs' S:=by
 have f:=aN b d;exact h.add f.1 f.2 (Nat.le_of_eq b.out) e
theorem keys(b:rs[i]? = some (k,c)):(rs.set i (k,c')).map (·.1)=rs.map (·.1):=by
 rw[List.map_set];refine List.ext_getElem? λj=>?_
 rw[List.getElem?_set];have d:=(UF.1 b).1;split
 ·rename_i e
  subst e;rw[yCl (by simpa using d),Vz,b];rfl
 ·rfl
theorem Rl(b:rs[i]? = some (k,c)):Nk (rs.set i (k,c'))=Nk rs:=funext λg=>by unfold Nk;rw[keys b]
theorem turn(h:Mp w W rs S)(d:rs[i]? = some (k,c))(B:kZ w W')(r:W.heap.size<=W'.heap.size)(ho:∀g,g≠k->g<W.heap.size->W'.heap[g]? = W.heap[g]?)(y:Row W' k c'):Mp w W' (rs.set i (k,c')) S:=by
 refine⟨B,λx hx=>?_,by rw[keys d];exact h.nd,λs n=>?_⟩
 ·have a:=hx;obtain⟨j,p,e⟩:=List.mem_iff_getElem.1 hx;rw[List.length_set]at p;rw[List.getElem_set]at e;by_cases b:i=j
  ·rw[yCl b]at e;rw[<-e];exact⟨(h.lt (key d)).1,y⟩
  ·rw[yCm b]at e;have z:rs[j]∈rs:=List.getElem_mem p;have hh:=h.rw _ z;rw[<-e];have l:rs[j].1≠k:=λe'=>by
    have o:=(UF.1 d)
    obtain⟨f,q⟩:=o;have v:=Z5.1 h.nd;have u:(rs.map (·.1))[i]'(by simpa using f)=k:=by rw[Xf,q]
    have t:(rs.map (·.1))[j]'(by simpa using p)=k:=by rw[Xf];exact e'
    rcases Ws i j with m|A
    ·exact v i j _ _ m (u.trans t.symm)
    ·exact v j i _ _ (by omega) (t.trans u.symm)
   exact⟨hh.1,aV hh.2 r (ho _ l hh.2.1)⟩
 ·rw[Rl d];exact s.kp _ _ _ ⟨r,λg b o=>ho g (λe=>b (by rw[e];exact key d)) o⟩ (h.ob s n)
theorem upd{o:Nat}(h:Mp w W rs S)(i:Nat)(b:Hid (W.setCells k o us=W'))(f:Row (W.setCells k o us) k c')(d:rs[i]? = some (k,c):=by rfl)(e:rs.set i (k,c')=rs':=by(simp only[Uu,Uv])<;>rfl):Mp w W' rs' S:=by
 subst e;rw[b.out]at f;refine h.turn d ?_ ?_ (λg j _=>?_) f
 ·rw[<-b.out];exact RG.below_setCells (h.lt (key d)).1 _ _ _ h.bl
 ·rw[<-b.out,setCells_size];exact Uw _
 ·rw[<-b.out];exact aH k us o W g j
theorem put(h:Mp w W rs S)(i:Nat)(f:Hid (W.setCells k 0 c'=W'))(b:rs[i]? = some (k,c):=by rfl)(d:c'.length=c.length:=by rfl)(e:rs.set i (k,c')=rs':=by(simp only[Uu,Uv])<;>rfl):Mp w W' rs' S:=h.upd i f ((h.at_ i b).put d) b e
theorem th(h:Mp w W rs S)(i:Nat)(b:rs[i]? = some (k,c):=by rfl)(d:c'.length=c.length:=by rfl):W.there k 0 c'.length:=by rw[d];exact(h.at_ i b).2.2
theorem say(h:Mp w W rs S)(i:Nat)(k:SP.Only r 0 32 W W')(f:Holds encB W' r 0 L')(b:rs[i]? = some (r,aA L):=by rfl)(e:rs.set i (r,aA L')=rs':=by(simp only[Uu,Uv])<;>rfl):Mp w W' rs' S:=by
 subst e;have c:=h.lt (key b);refine h.turn b (h.bl.trans (wY k h.bl.size c.1)) k.size (λg j d=>k.block g d j) (pW f (Ux c.2 k.size))
theorem log(h:Mp w W rs S)(i:Nat)(k:rs[i]? = some (r,aA L):=by rfl):Holds encB W r 0 L:=row_holds (h.at_ i k)
theorem wk(h:Mp w W rs S)(i:Nat)(b:rs[i]? = some (k,c):=by rfl):∃c,Mp w W (rs.set i (k,c)) S:=⟨c,by
 obtain⟨e,d⟩:=UF.1 b;rw[<-d,List.set_getElem_self];exact h⟩
end Mp
abbrev Iv.mx(w:Ur)(d:List (Nat × List Ut))(S:List Pq)(i k:Nat)(b:Bool):Iv:=⟨λW=>∃c,Mp w W (d.set i (k,c)) S,λ_ _ e ⟨c,h⟩=>⟨c,h.grow e⟩,b⟩
abbrev Iv.mp(w:Ur)(k:List (Nat × List Ut))(S:List Pq)(b:Bool):Iv:=⟨λW=>Mp w W k S,λ_ _ c h=>h.grow c,b⟩
end
namespace SPA
variable {N:Nat}[NeZero N]{M:Type}
namespace Md
variable (D:Md N M)
theorem cancel(a b c:M):D.ad a b=D.ad a c↔b=c:=by
 constructor
 ·intro h;have k:D.ad (D.ac (-1) a) (D.ad a b)=D.ad (D.ac (-1) a) (D.ad a c):=by rw[h]
  rw[<-D.assoc,<-D.assoc,D.comm _ a,D.AQ,D.zadd,D.zadd]at k;exact k
 ·rintro rfl;rfl
theorem Is(Y W T:Nat->(Fin N))(z:(Fin N))(k:Nat->M)(n:Nat)(h:∀i,i<n->Y i*W i=1):
 D.dt (λi=>z*Y i+z*z*T i) (λi=>D.ac (W i) (k i)) n=D.dt (λi=>z+z*z*(T i*W i)) k n:=
 D.xX n λi b=>by
  have c:=h i b;rw[D.acAc,show(z*Y i+z*z*T i)*W i=z+z*z*(T i*W i) by
   generalize Y i=y,W i=w,T i=t at *;grind]
theorem Gn(H G:M)(t d tau:(Fin N))(A B E:M):D.cm H G (t-d) tau=D.ad (D.ad A B) E↔D.cm H G t tau=D.ad (D.ad A (D.ac d H)) (D.ad B E):=by
 rw[<-D.cancel (D.ac d H)];have k:D.ad (D.ac d H) (D.cm H G (t-d) tau)=D.cm H G t tau:=by
  unfold cm;rw[<-D.assoc,<-D.adAc,show d+(t-d)=t by grind]
 have b:D.ad (D.ac d H) (D.ad (D.ad A B) E)=D.ad (D.ad A (D.ac d H)) (D.ad B E):=by ac_rfl
 rw[k,b]
theorem Gy(A X G:M)(mu x t w:(Fin N))(L K U:M):
 D.ad (D.ad (D.ad (D.ad A (D.ac x X)) (D.ac (-1) (D.ac mu G))) (D.ad L K)) (D.ac t (D.ac w U))=D.ad (D.ad (D.ad (D.ad A (D.ac x X)) (D.ac (-mu) G)) (D.ad L K)) (D.ac (t*w) U):=by
 rw[D.acAc,D.acAc,show(-1:(Fin N))*mu = -mu by grind]
end Md
end SPA
section
open SPA
variable {N:Nat}[NeZero N]{M:Type}
structure Rv(N:Nat) where
 v:Nat
 n:Nat
 s:Nat->Fin N
 q:Nat->Fin N
 al:Fin N
 rho:Fin N
 t1:Fin N
 t2:Fin N
 k:Fin N
 y:Fin N
 z:Fin N
 x:Fin N
 w:Fin N
namespace Rv
variable (R:Rv N)
def l(i:Nat):Fin N:=btF N R.v i
def m(i:Nat):Fin N:=btF N R.v i-1
def a0(i:Nat):Fin N:=R.l i+-R.z
def sh(i:Nat):Fin N:=R.z*pwF R.y i+R.z*R.z*pwF (ofF N 2) i
def b0(i:Nat):Fin N:=R.m i*pwF R.y i+R.sh i
def b1(i:Nat):Fin N:=R.q i*pwF R.y i
def a(i:Nat):Fin N:=R.a0 i+R.s i*R.x
def b(i:Nat):Fin N:=R.b0 i+R.b1 i*R.x
def c1:Fin N:=Md.pr R.a0 R.b1 R.n+Md.pr R.s R.b0 R.n
def c2:Fin N:=Md.pr R.s R.b1 R.n
def t:Fin N:=Md.pr R.a R.b R.n
def tau:Fin N:=R.t1*R.x+R.t2*R.x*R.x+R.z*R.z*R.k
def mu:Fin N:=R.al+R.rho*R.x
def d:Fin N:=(R.z-R.z*R.z)*Md.pr (λ_=>1) (pwF R.y) R.n-R.z*R.z*R.z*ofF N (2^R.n-1)
variable (D:Md N M) (G H U:M) (g k:Nat->M)
def pA:M:=D.ad (D.ac R.al G) (D.ad (D.dt R.l g R.n) (D.dt R.m k R.n))
def pS:M:=D.ad (D.ac R.rho G) (D.ad (D.dt R.s g R.n) (D.dt R.q k R.n))
def pV:M:=D.cm H G (ofF N R.v) R.k
def p1:M:=D.cm H G R.c1 R.t1
def p2:M:=D.cm H G R.c2 R.t2
def hh(i:Nat):M:=D.ac (pwF (ivF R.y) i) (k i)
def rg:Md.Rg (Fin N):=rgF R.v R.s R.q R.y (ivF R.y) R.z R.x
theorem Su:R.rg.a0=R.a0:=funext λi=>by
 show R.l i-R.z=R.l i+-R.z;grind
theorem Ss:R.rg.b0=R.b0:=funext λi=>by
 show pwF R.y i*(R.m i+R.z)+R.z*R.z*pwF (ofF N 2) i=R.m i*pwF R.y i+(R.z*pwF R.y i+R.z*R.z*pwF (ofF N 2) i);grind
theorem PQ:R.rg.b1=R.b1:=funext λi=>by
 show pwF R.y i*R.q i=R.q i*pwF R.y i;grind
theorem e_a:R.rg.a=R.a:=funext λi=>by
 show R.rg.a0 i+_=_;rw[Su];rfl
theorem e_b:R.rg.b=R.b:=funext λi=>by
 show R.rg.b0 i+R.rg.b1 i*_=_;rw[Ss,PQ];rfl
theorem IK(b:Nat->Fin N):∀n,Md.pr (λ_=>1) b n=(SPA.own N).sm b n
 | 0=>rfl
 | n+1=>by
  show Md.pr (λ_=>1) b n+1*b n=(SPA.own N).sm b n+b n;rw[IK b n];grind
theorem e_d:R.rg.d R.n=R.d:=by
 unfold d;rw[IK];exact QU _ _ _ _ _ _ _ _
theorem sums(c:IsP N)(d:R.y.val≠0)(hv:R.v<2^R.n):D.cm H G (R.t-R.d) R.tau=D.ad (D.ad (D.ac (R.z*R.z) (R.pV D G H)) (D.ac R.x (R.p1 D G H))) (D.ac (R.x*R.x) (R.p2 D G H)):=by
 rw[D.Gn];have h:=D.Dc R.rg R.n (IC R.v R.s R.q R.z R.x (sM c R.y d) R.n) H G R.k R.t1 R.t2;have ev:R.rg.v R.n=ofF N R.v:=QT _ _ _ _ _ _ _ _ hv;have k:R.rg.t1 R.n=R.c1:=by
  show Md.pr R.rg.a0 R.rg.b1 R.n+Md.pr R.s R.rg.b0 R.n=_;rw[Su,PQ,Ss];rfl
 have b:R.rg.t2 R.n=R.c2:=by
  show Md.pr R.s R.rg.b1 R.n=_;rw[PQ];rfl
 rw[ev,k,b,e_d,e_a,e_b]at h;have e:R.t1*R.x+R.t2*(R.x*R.x)+R.z*R.z*R.k=R.tau:=by
  show _=R.t1*R.x+R.t2*R.x*R.x+R.z*R.z*R.k;grind
 rw[show R.rg.x=R.x from rfl,show R.rg.z=R.z from rfl,e]at h;exact h
theorem point(b:IsP N)(c:R.y.val≠0):
 D.ad (D.ad (D.ad (D.ad (R.pA D G g k) (D.ac R.x (R.pS D G g k))) (D.ac (-1) (D.ac R.mu G))) (D.ad (D.dt (λ_=>-R.z) g R.n) (D.dt R.sh (R.hh D k) R.n))) (D.ac R.t (D.ac R.w U))=D.hd R.a R.b g (R.hh D k) (D.ac R.w U) R.n:=by
 rw[D.Gy];have h:=D.B9 R.rg R.n (IC R.v R.s R.q R.z R.x (sM b R.y c) R.n) G g k U R.al R.rho R.w;have d:=D.Is (pwF R.y) (pwF (ivF R.y)) (pwF (ofF N 2)) R.z k R.n λi _=>Dt (sM b R.y c) i
 rw[e_a,e_b]at h;rw[show D.dt R.sh (R.hh D k) R.n=_ from d];exact h
end Rv
end
section
open Go.RowKit Go.Sort Go.Deep Go.Shelf
section
variable {P:VD}{ops:Array Vk}{rest:List Vk}{op:Vk}{a:Act}{w w':Ur}{v:Ut}{Q:Yq->Act->Ur->Prop}
theorem wpList_build(b:op.guard=none)(c:U8)(n:Nat)(k:Array (Nat × XI))(_:op.op=.buildSlice c n k)(d:(U5 a.eval op).run P w=.ok (.value v) w')(h:wpList P ops Q rest (a.put op.dst v) w'):wpList P ops Q (op :: rest) a w:=
 Xi b λK e=>by
  unfold VT;rw[d];exact e _ _ h
end
variable {P:Nat}[NeZero P]
def iE:ByteArray:=⟨#[118,97,108,117,101]⟩
noncomputable def cmt (P:Nat) [NeZero P] (n m:Nat):EC.Pt P:=tot (λj=>if j=0 then .some (hpt P iE []) else gG P) 2 (λj=>if j=0 then(n:Int) else(m:Int))
def Bt(P:Nat)[NeZero P](N:Nat)(w:Ur)(k b:Bs)(e:Ut)(w':Ur):Prop:=match rq N k,rq N b with
 | some n,some m=>Hd w (wr (cmt P n m)) e w'
 | _,_=>Kw 3 e
theorem Lh{w:Ur}{v b:Ut}{e k:Bs}(T:U8)(h:Arg w v e)(f:Arg w b k):vT (w.alloc (.cells #[v,b] T)) (some (aZ w.heap.size)) 2 (λj=>if j=0 then e else k):=λ_ =>
 ⟨w.heap.size,rfl,by rw[UB];omega,λj g=>by
  have d:=(Made.alloc w [v,b] T).range;have c:j=0\/j=1:=by omega
  rcases c with rfl|rfl
  ·exact⟨v,d 0 _ rfl,h.below (aC w _)⟩
  ·exact⟨b,d 1 _ rfl,f.below (aC w _)⟩⟩
theorem I3(w:Ur):PartOk w (.slice none 0 0) []:=⟨none,0,0,0,#[],rfl,rfl,Uw _,by decide,U4 rfl⟩
theorem zQ(q:Fin P × Fin P):Pair q.1 q.2 (.some q:EC.Pt P):=⟨rfl,rfl⟩
theorem PZ(C : Fld P){n m : Nat}(hn : n < top)(hm : m < top){ns : Nat -> Nat}{xs ys : Nat -> Fin P}(h0 : ns 0 = n)(h1 : ns 1 = m)(hx0 : xs 0 = (hpt P iE []).1)(hy0 : ys 0 = (hpt P iE []).2)(hx1 : xs 1 = gX P)(hy1 : ys 1 = gY P):
    tD (ptP (iH ns xs ys 2 257)).1 (ptP (iH ns xs ys 2 257)).2 = wr (cmt P n m) := by
  have hJ := BF C (N := 2) (ns := ns) (xs := xs) (ys := ys) (p := λj => if j = 0 then(.some (hpt P iE []) : EC.Pt P) else gG P)
    (fun j hj => by have : j = 0 ∨ j = 1 := by omega
                    rcases this with rfl | rfl
                    · rw [h0]; exact hn
                    · rw [h1]; exact hm)
    (fun j hj => by have : j = 0 ∨ j = 1 := by omega
                    rcases this with rfl | rfl
                    · rw [hx0, hy0]; exact zQ _
                    · rw [hx1, hy1]; exact zQ (gX P, gY P))
    (fun j hj => by have : j = 0 ∨ j = 1 := by omega
                    rcases this with rfl | rfl
                    · exact AY C _ _
                    · exact Cs C)
  have e1 := vM C (hJ.pair C) hJ.2;have e2 : tot (λj => if j = 0 then(.some (hpt P iE []) : EC.Pt P) else gG P) 2 (λj => (ns j : Int)) = cmt P n m := eJ 2 λj hj => by
    have : j = 0 \/ j = 1 := by omega
    rcases this with rfl | rfl
    · rw [h0]; rfl
    · rw [h1]; rfl
  rw [e2]at e1;exact e1
theorem CY{N:Nat}(C:Fld P)(hG:Gap 4624529908474429119 4994812053365940164 1 N)(hN:N<=top)(v0 v1:Ut)(A F:Bs)(w:Ur)(h0:Arg w v0 A)(h1:Arg w v1 F):
 UH prog 11 #[v0,v1] w (rZ w λe w'=>Bt P N w A F e w'):=by
 have hA:=Lh 23 h0 h1;obtain⟨p0,n0,c0,rfl,-,-⟩:=h0;obtain⟨p1,n1,c1,rfl,-,-⟩:=h1;have G:=Ob hG 2 2 (by decide) _ _ _ hA;clear hA;go_enter func11,ntmps11;go_wp2_with fail
 refine G.mono ?_;rintro e c ⟨v,rfl,E,⟨k,h7,X,rfl,a⟩|⟨⟨j,hj,b⟩,rfl⟩⟩
 ·obtain⟨n,hn,h3⟩:=a 0 (by decide);obtain⟨m,hm,S⟩:=a 1 (by decide);clear a G;have HB:Hid (kZ w c):=(aC w _).trans (E.mono (by rw[UB];omega));have R:Hid (k<c.heap.size/\c.rangeAt k (4*0) (wn n)/\c.rangeAt k (4*1) (wn m)):=⟨X,h3,S⟩
  have Q:Hid (rq N A=some n/\rq N F=some m):=⟨hn,hm⟩
  clear E h7 X h3 S hn hm;go_wp2_with fail
  refine(wV iE none 0 0 c).mono ?_;rintro e w2 ⟨v,rfl,rfl,rfl⟩;have T:=Ae C iE none 0 0 [] c (by decide) (I3 c);obtain⟨q,hq⟩:∃q,Hid (hpt P iE []=q):=⟨_,rfl⟩
  rw[hq.out]at T;obtain⟨x,y⟩:=q;obtain⟨gx,h2⟩:∃gx,Hid (gX P=gx):=⟨_,rfl⟩
  obtain⟨o,U⟩:∃o,Hid (gY P=o):=⟨_,rfl⟩
  have B:=Eh C;rw[h2.out,U.out]at B;obtain⟨v4,J⟩:∃v4,Hid (pv x y=v4):=⟨_,rfl⟩
  obtain⟨v5,H⟩:∃v5,Hid (pv gx o=v5):=⟨_,rfl⟩
  replace T:UH prog 49 #[.func (.func 112) #[] #[jZ c.heap.size,.pointer (some ⟨c.heap.size+1,0,none⟩)]] ((c.alloc (.cells #[.string iE] 9)).alloc (.cells #[.slice none 0 0] 23)) (rZ c λe w'=>e=v4):=by rw[<-J.out];exact T
  rw[H.out]at B;go_wp2_with fail
  refine T.mono ?_;rintro e w3 ⟨v,rfl,u,rfl⟩;have K:Hid (kZ w w3):=HB.out.trans (u.mono HB.out.size);have f:Hid (k<w3.heap.size/\w3.rangeAt k (4*0) (wn n)/\w3.rangeAt k (4*1) (wn m)):=⟨Ux R.out.1 u.size,RG.range_below R.out.2.1 u R.out.1,RG.range_below R.out.2.2 u R.out.1⟩
  clear T u HB R;go_wp2_with fail
  refine(B _).mono ?_;rintro e p ⟨v,rfl,r,rfl⟩;have O:Hid (kZ w p):=K.out.trans (r.mono K.out.size);have l:Hid (k<p.heap.size/\p.rangeAt k (4*0) (wn n)/\p.rangeAt k (4*1) (wn m)):=⟨Ux f.out.1 r.size,RG.range_below f.out.2.1 r f.out.1,RG.range_below f.out.2.2 r f.out.1⟩
  clear B r K f;obtain⟨d,L⟩:∃d,Hid (p.alloc (.cells ((ws x++ws y)++(ws gx++ws o)).toArray 93)=d):=⟨_,rfl⟩
  go_wp2_with (refine wpList_build (v:=sZ p.heap.size 2 2) (w':=d) rfl 100 2 _ rfl ?_ ?_;rw[<-L.out,<-J.out,<-H.out];kernel_rfl;refine Hid.out ?_)
  have M:Hid (kZ w d/\k<d.heap.size/\p.heap.size<d.heap.size/\(∀i,i<2->d.rangeAt k (4*i) (wn (if i=0 then n else m)))/\∀i,i<2->d.rangeAt p.heap.size (8*i) (ws (if i=0 then x else gx)++ws (if i=0 then y else o))):=by
   have t:=Made.alloc p ((ws x++ws y)++(ws gx++ws o)) 93;have V:p.alloc (.cells ((ws x++ws y)++(ws gx++ws o)).toArray 93)=d:=L.out;rw[V]at t;refine⟨O.out.trans (t.bel.mono O.out.size),Ux l.out.1 t.bel.size,t.lt,λi I=>?_,λi I=>?_⟩
   ·have:i=0\/i=1:=by omega
    rcases this with rfl|rfl
    ·exact RG.range_below l.out.2.1 t.bel l.out.1
    ·exact RG.range_below l.out.2.2 t.bel l.out.1
   ·have:i=0\/i=1:=by omega
    rcases this with rfl|rfl
    ·intro j v hj;have D:j<8:=(UF.1 hj).1;have:=t.range j v (by rw[List.getElem?_append_left (show j<(ws x++ws y).length from D)];exact hj);exact this
    ·intro j v hj;have:=t.range (8+j) v (by rw[List.getElem?_append_right (show(ws x++ws y).length<=8+j from Nat.le_add_right 8 j),show 8+j-(ws x++ws y).length=j from Nat.add_sub_cancel_left 8 j];exact hj);rw[UD]at this;exact this
  clear L O l J H;show wpList _ _ _ _ _ _;have G:UH prog 48 #[sZ k 2 2,sZ p.heap.size 2 2] d (rZ d λe w'=>e=pv (ptP (iH (λi=>if i=0 then n else m) (λi=>if i=0 then x else gx) (λi=>if i=0 then y else o) 2 257)).1 (ptP (iH (λi=>if i=0 then n else m) (λi=>if i=0 then x else gx) (λi=>if i=0 then y else o) 2 257)).2):=by
   refine(Ia C 2 (by decide) (λi=>if i=0 then n else m) (λi=>if i=0 then x else gx) (λi=>if i=0 then y else o) (λi I=>?_) k p.heap.size d M.out.2.1 M.out.2.2.1 M.out.2.2.2.1 M.out.2.2.2.2).mono ?_
   ·have:i=0\/i=1:=by omega
    rcases this with rfl|rfl
    ·exact wN hN Q.out.1
    ·exact wN hN Q.out.2
   ·rintro e w' ⟨v,rfl,t,s,rfl,rfl⟩;exact⟨_,rfl,t,rfl⟩
  have hW:=PZ C (n:=n) (m:=m) (wN hN Q.out.1) (wN hN Q.out.2) (ns:=λi=>if i=0 then n else m) (xs:=λi=>if i=0 then x else gx) (ys:=λi=>if i=0 then y else o) rfl rfl (by rw[hq.out];rfl) (by rw[hq.out];rfl) (by rw[h2.out];rfl) (by rw[U.out];rfl);generalize ptP (iH (λi=>if i=0 then n else m) (λi=>if i=0 then x else gx) (λi=>if i=0 then y else o) 2 257)=z at G hW;have D:∀w,UH prog 52 #[pv z.1 z.2] w (rZ w λe w'=>mL w (tD z.1 z.2) e w'):=vK C _ _;rw[hW]at D;clear hW;generalize pv z.1 z.2=v6 at G D;go_wp2_with fail
  refine G.mono ?_;rintro e w6 ⟨v,rfl,V,rfl⟩;have I:Hid (kZ w w6):=M.out.1.trans (V.mono M.out.1.size);clear V M G;go_wp2_with fail
  refine(D _).mono ?_;rintro e w7 ⟨v,rfl,W,g,t,rfl,h5,h4,Y,Z⟩;have h6:Hid (kZ w w7):=I.out.trans (W.mono I.out.size);have HO:Hid (Bt P N w A F (.tuple #[sZ g 33 t,iZ 0]) w7):=by
   show Bt P N w A F (.tuple #[sZ g 33 t,iZ 0]) w7;unfold Bt;rw[Q.out.1,Q.out.2];exact⟨g,t,rfl,h5,UC I.out.size h4,Y,Z⟩
  clear W Z D;go_wp2
  go_ret2
  exact⟨_,rfl,h6.out,HO.out⟩
 ·have HB:Hid (kZ w c):=(aC w _).trans (E.mono (by rw[UB];omega));have HO:Hid (Bt P N w A F (.tuple #[.slice none 0 0,iZ 3]) c):=by
   show Bt P N w A F (.tuple #[.slice none 0 0,iZ 3]) c;unfold Bt;have:j=0\/j=1:=by omega
   rcases this with rfl|rfl
   ·have b:rq N A=none:=b;rw[b];rfl
   ·have b:rq N F=none:=b;rw[b];cases rq N A<;>rfl
  clear E b G;go_wp2
  go_ret2
  exact⟨_,rfl,HB.out,HO.out⟩
end
section
open Go.RowKit Go.Sort Go.Deep
variable {P:Nat}[NeZero P]{N:Nat}
theorem kJ(O:Ord N){n:Nat}(k:n<N):rq N (bx n)=some n:=by
 have hv:beV (bx n).toList=n:=Bm (Ux k O.le);unfold rq;rw[hv,yCl ⟨eE n,k⟩]
def Ez(W:Ur)(v:Ut)(T:Bs):Prop:=∃g c,v=sZ g 33 c/\33<=c/\g<W.heap.size/\Holds encB W g 0 T
theorem Ez.grow{W W':Ur}{v:Ut}{T:Bs}(h:Ez W v T)(b:kZ W W'):Ez W' v T:=by
 obtain⟨g,c,d,e,k,f⟩:=h;exact⟨g,c,d,e,Ux k b.size,Holds.below f b k⟩
def Et(W:Ur)(v:Ut)(T:Bs):Prop:=∃u,v=.tuple #[u,iZ 0]/\Ez W u T
section
variable (w:Ur) (k2 k3 k4 a b:Nat) (T:Bs)
def RC1:Nat->Ut->Ur->Prop
 | 0,v,_=>v=nv a
 | 1,v,W=>El 32 W v (bx a)
 | 2,v,_=>v=nv b
 | 3,v,W=>El 32 W v (bx b)
 | 4,v,W=>Et W v T
 | 5,v,W=>Et W v T
 | 6,v,W=>Ez W v T
 | 7,v,_=>v=iZ 0
 | 8,v,W=>Ez W v T
 | 9,v,_=>v=iZ 0
 | _,_,_=>True
def GC1:Gw:=⟨RC1 a b T,λW=>Kp w W [(k4,z33),(k3,wn b),(k2,wn a)],λi v W W' k h=>by
 match i,h with
 | 0,h=>exact h
 | 1,h=>exact El.below h k (Uw _)
 | 2,h=>exact h
 | 3,h=>exact El.below h k (Uw _)
 | 4,h=>obtain⟨u,c,d⟩:=h;exact⟨u,c,d.grow k⟩
 | 5,h=>obtain⟨u,c,d⟩:=h;exact⟨u,c,d.grow k⟩
 | 6,h=>exact Ez.grow h k
 | 7,h=>exact h
 | 8,h=>exact Ez.grow h k
 | 9,h=>exact h
 | _+10,_=>trivial,λW W' k h=>h.grow k⟩
end
theorem oL(C:Fld P)(O:Ord N){a b:Nat}(Q:a<N)(L:b<N):Gives 69 #[nv a,nv b] (pvl (wr (cmt P a b))):=by
 intro w;obtain⟨T,H⟩:∃T,Hid (wr (cmt P a b)=T):=⟨_,rfl⟩
 have R:T.size=33:=by rw[<-H.out];exact aT _
 have D:Hid (Ord N/\a<N/\b<N):=⟨O,Q,L⟩
 have HC:Hid (∀(v0 v1:Ut) (W:Ur),El 32 W v0 (bx a)->El 32 W v1 (bx b)->UH prog 11 #[v0,v1] W (rZ W λe w'=>Et w' e T)):=λv0 v1 W h0 h1=>by
  refine(CY (N:=N) C O.gap O.le v0 v1 (bx a) (bx b) W h0.arg h1.arg).mono ?_;rintro e W' ⟨u,rfl,k,hR⟩;unfold Bt at hR;rw[kJ O Q,kJ O L]at hR;obtain⟨g,c,rfl,o,q,p,f⟩:=hR;rw[H.out]at f;exact⟨_,rfl,k,_,rfl,g,c,rfl,o,p,f⟩
 rw[H.out];clear C O H Q L;obtain⟨va,z⟩:∃v,Hid (nv a=v):=⟨_,rfl⟩
 obtain⟨vb,B⟩:∃v,Hid (nv b=v):=⟨_,rfl⟩
 have M:=boxS a w;obtain⟨i,l⟩:∃i,Hid (w.alloc (.cells (wn a).toArray 49)=i):=⟨_,rfl⟩
 have J:=boxS b i;obtain⟨j,n⟩:∃j,Hid (i.alloc (.cells (wn b).toArray 49)=j):=⟨_,rfl⟩
 obtain⟨m,f⟩:∃m,Hid (j.alloc (.cells z33.toArray 103)=m):=⟨_,rfl⟩
 rw[z.out,l.out]at M;rw[B.out,n.out]at J;rw[z.out,B.out];have I:i.heap.size=w.heap.size+1:=by rw[<-l.out,UB]
 have K:j.heap.size=w.heap.size+2:=by rw[<-n.out,UB,I]
 rw[I]at J;have t:Hid (Kp w m [(w.heap.size+2,z33),(w.heap.size+1,wn b),(w.heap.size,wn a)]):=by
  have o:Row i w.heap.size (wn a):=by rw[<-l.out];exact aE w _ _
  have q:Row j (w.heap.size+1) (wn b):=by rw[<-n.out,<-I];exact aE i _ _
  have p:Row m (w.heap.size+2) z33:=by rw[<-f.out,<-K];exact aE j _ _
  have b1:kZ w i:=by rw[<-l.out];exact aC w _
  have r:kZ i j:=by rw[<-n.out];exact aC i _
  have k:kZ j m:=by rw[<-f.out];exact aC j _
  refine⟨(b1.trans (r.mono (by omega))).trans (k.mono (by omega)),λx hx=>?_⟩;simp only[VX,UY,or_false]at hx;rcases hx with rfl|rfl|rfl
  ·exact p
  ·exact q.below k
  ·exact(o.below r).below k
 have BA:=Hid.mk' M;have BB:=Hid.mk' J;have Y:=Hid.mk' K;clear M J I K;go_enter func69,ntmps69;go_wp2_with (first|(refine aF (u:=va) (v:=jZ w.heap.size) (w':=i) rfl 49 (.tmp 0) rfl ?_ ?_ ?_;rfl;exact BA.out)|(refine aF (u:=vb) (v:=.pointer (some ⟨w.heap.size+1,0,none⟩)) (w':=j) rfl 49 (.tmp 1) rfl ?_ ?_ ?_;rfl;exact BB.out)|(refine bG (v:=.pointer (some ⟨w.heap.size+2,0,none⟩)) (w:=j) (w':=m) rfl (.alloc 103) rfl ?_ ?_;(rw[<-f.out,<-Y.out];kernel_rfl))|fail)
 clear BA BB l n f Y;refine(GC1 w w.heap.size (w.heap.size+1) (w.heap.size+2) a b T).draws (by kernel_rfl) (by kernel_rfl) ⟨
  iQ 49 2 rfl u40 λx W k=>⟨w.heap.size,0,wn a,k.o 2 (by kernel_rfl),(k.b.at 2 rfl).2.1,i40,rfl⟩,
  gK λx W k=>⟨[(8,nv a)],141,#[nv a],⟨k.n 0 8 (by kernel_rfl) (by kernel_rfl),yCn⟩,by kernel_rfl,by
   refine(qO D.out.1 D.out.2.1 W).mono ?_;rintro e W' ⟨u,rfl,p,o,rfl⟩;exact⟨_,rfl,o.bel,El.of_made o (eE a)⟩⟩,
  iQ 49 3 rfl u40 λx W k=>⟨w.heap.size+1,0,wn b,k.o 3 (by kernel_rfl),(k.b.at 1 rfl).2.1,i40,rfl⟩,
  gK λx W k=>⟨[(10,nv b)],141,#[nv b],⟨k.n 2 10 (by kernel_rfl) (by kernel_rfl),yCn⟩,by kernel_rfl,by
   refine(qO D.out.1 D.out.2.2 W).mono ?_;rintro e W' ⟨u,rfl,p,o,rfl⟩;exact⟨_,rfl,o.bel,El.of_made o (eE b)⟩⟩,
  gK λx W k=>⟨[(9,x.eval (.tmp 9)),(11,x.eval (.tmp 11))],11,#[x.eval (.tmp 9),x.eval (.tmp 11)],⟨rfl,rfl,yCn⟩,by kernel_rfl,HC.out _ _ W (k.n 1 9 (by kernel_rfl) (by kernel_rfl)) (k.n 3 11 (by kernel_rfl) (by kernel_rfl))⟩,
  bN λx W k=>⟨[(12,x.eval (.tmp 12))],x.eval (.tmp 12),W,⟨rfl,yCn⟩,by kernel_rfl,UR _ _,k.n 4 12 (by kernel_rfl) (by kernel_rfl)⟩,
  bN λx W k=>by
   obtain⟨u,o,p⟩:=show Et W (x.eval (.tmp 7)) T from k.n 5 7 (by kernel_rfl) (by kernel_rfl)
   exact⟨[(7,.tuple #[u,iZ 0])],u,W,⟨o,yCn⟩,by kernel_rfl,UR _ _,p⟩,
  bN λx W k=>by
   obtain⟨u,o,p⟩:=show Et W (x.eval (.tmp 7)) T from k.n 5 7 (by kernel_rfl) (by kernel_rfl)
   exact⟨[(7,.tuple #[u,iZ 0])],iZ 0,W,⟨o,yCn⟩,by kernel_rfl,UR _ _,rfl⟩,
  bN λx W k=>⟨[(13,x.eval (.tmp 13))],x.eval (.tmp 13),W,⟨rfl,yCn⟩,by kernel_rfl,UR _ _,k.n 6 13 (by kernel_rfl) (by kernel_rfl)⟩,
  bN λx W k=>⟨[(14,iZ 0)],iZ 0,W,⟨k.n 7 14 (by kernel_rfl) (by kernel_rfl),yCn⟩,by kernel_rfl,UR _ _,rfl⟩,yCn⟩ t.out.drew ?_
 intro V o E y;obtain⟨g,cg,s,-,k3,S⟩:=show Ez o (V 8) T from E 8 (Nat.lt_of_succ_le (Nat.le_of_ble_eq_true (by kernel_rfl)))
 have p:Kp w o [(w.heap.size+2,z33),(w.heap.size+1,wn b),(w.heap.size,wn a)]:=y;have G:Hid (Row o (w.heap.size+2) z33/\kZ w o/\Row o g (aA T)):=⟨p.at 0 rfl,p.bl,pW S k3⟩
 dsimp only[bU,VK];simp only[UN,Us,Uu,Uv];rw[s];clear E y s p t k3 S D HC;have Z:=FV g cg;obtain⟨m,f⟩:∃m,Hid (o.setCells (w.heap.size+2) 0 (aA T)=m):=⟨_,rfl⟩
 have k:(aA T).length=33:=aB R;have t:Hid (Row m (w.heap.size+2) (aA T)/\kZ w m):=by rw[<-f.out];exact⟨G.out.1.put (by rw[k];rfl),RG.below_setCells (by omega) _ _ _ G.out.2.1⟩
 obtain⟨U,A⟩:∃U,Hid (U3 (aA T).toArray=U):=⟨_,rfl⟩
 obtain⟨d,q,r⟩:=Uy.1 uCP;have X:Hid (prog.underlying 103=some d/\d.isRow=true):=⟨q,r⟩
 have F:Hid ((prog.info? 103).map (·.size)=some (aA T).length/\o.there (w.heap.size+2) 0 (aA T).toArray.size/\(prog.info? 103).map (·.size)=some (aA T).toArray.size):=by
  have e:(aA T).toArray.size=33:=by rw[VC];exact k
  refine⟨by rw[k];exact cV,by rw[e];exact G.out.1.2.2,by rw[e];exact cV⟩
 clear k q r;generalize V 0=s0;generalize V 1=s1;generalize V 2=s2;generalize V 3=s3;generalize V 4=s4;generalize V 5=s5;generalize V 6=s6;generalize V 7=s7;generalize V 9=s9;go_wp2_with (first|(refine U6 rfl 103 _ rfl g 0 ?_ (aA T) d ?_ ?_ ?_ ?_ ?_;rfl;exact G.out.2.2.2.1;exact X.out.1;exact X.out.2;exact F.out.1;rw[A.out])|(refine U2 rfl 103 _ _ rfl (w.heap.size+2) 0 (aA T).toArray ?_ ?_ ?_ ?_ ?_ ?_;rfl;exact A.out.symm;exact F.out.2.1;exact F.out.2.2;exact bW T;rw[show(aA T).toArray.toList=aA T from rfl,f.out])|fail)
 refine UE (aG 4 103 rfl t.out.1 rfl uCP F.out.1) rfl ?_;exact⟨_,rfl,t.out.2,rfl⟩
end
section
open Go.RowKit Go.Sort Go.Deep Go.Shelf
attribute [local go_sem] Zf
end
section
open Go.RowKit Go.Sort Go.Deep Go.Shelf
attribute [local go_sem] Zf
end
section
open Go.RowKit Go.Sort Go.Deep
variable {P:Nat}[NeZero P]{N:Nat}
def zz(n:Nat):List Ut:=(VB n (Value.int .u8 0))
def o33:Bs:=UJ 33 0
theorem My:(.agg z33.toArray:Ut)=pvl o33:=by
 unfold pvl z33 o33 aA;rw[Y5,List.map_replicate];rfl
theorem Sm.mono{B k:Nat}{W:Ur}{v:Ut}{l:List (Nat × Bs)}(h:Sm B W v l)(f:k<=B):Sm k W v l:=by
 obtain⟨g,c,b,e,d,i⟩:=h;exact⟨g,c,b,e,UC f d,i⟩
section
variable (w:Ur) (k6 k8 n:Nat) (Y A T:Bs)
def Rb:Nat->Ut->Ur->Prop
 | 0,v,_=>v=pvl Y
 | 1,v,W=>Sm w.heap.size W v [(1,Y)]
 | 2,v,_=>v=pvl A
 | 3,v,_=>v=nv n
 | 4,v,W=>Sm w.heap.size W v [(n,A)]
 | 5,v,W=>Sm w.heap.size W v [(1,Y),(n,A)]
 | 6,v,_=>v=pvl T
 | 7,v,W=>El 33 W v T
 | 8,v,W=>El 33 W v T
 | 9,v,_=>v=iZ 0
 | _,_,_=>True
def Gb:Gw:=⟨Rb w n Y A T,λW=>Kp w W [(k8,wn n),(k6,aA Y)],λi v W W' k h=>by
 match i,h with
 | 0,h=>exact h
 | 1,h=>exact Sm.grow h k
 | 2,h=>exact h
 | 3,h=>exact h
 | 4,h=>exact Sm.grow h k
 | 5,h=>exact Sm.grow h k
 | 6,h=>exact h
 | 7,h=>exact El.below h k (Uw _)
 | 8,h=>exact El.below h k (Uw _)
 | 9,h=>exact h
 | _+10,_=>trivial,λW W' k h=>h.grow k⟩
end
theorem CN(x:UInt8)(r:List UInt8):beV (x :: r)=x.toNat*256^r.length+beV r:=by
 have h:=jP [x] r;rw[show [x]++r=x :: r from rfl]at h;rw[h];simp[beV]
end
section
open Go.RowKit Go.Sort Go.Deep
theorem FO:∀(l r:List UInt8),l.length=r.length->beV l=beV r->l=r
 | [],[],_,_=>rfl
 | x :: l,y :: r,hl,h=>by
  have k:l.length=r.length:=Nat.succ.inj hl;rw[CN,CN,k]at h;have b1:=Eg l;have f:=Eg r;rw[k]at b1;have b:0<256^r.length:=XK dC;have c:(x.toNat*256^r.length+beV l)/256^r.length=x.toNat:=by
   rw[Vv,yBn b,Xg b1,XD]
  have d:(y.toNat*256^r.length+beV r)/256^r.length=y.toNat:=by
   rw[Vv,yBn b,Xg f,XD]
  have e3:x.toNat=y.toNat:=by rw[<-c,<-d,h]
  have e:=UInt8.toNat_inj.1 e3;subst e;rw[FO l r k oM]
theorem SD{b:Bs}(c:b.size=32){n:Nat}(k:n<top)(h:beV b.toList=n):bx n=b:=by
 have:=FO (bx n).toList b.toList (by rw[UK,UK,eE,c]) (by rw[Bm k,h]);exact Array.toList_inj.1 this
variable {P:Nat}[NeZero P]
end
section
open Go.RowKit Go.Sort Go.Deep
variable {P:Nat}[NeZero P]{N:Nat}
theorem wH(O:Ord N)(B:Nat)(s t:Ut)(l m:List (Nat × Bs))(p:0<l.length)(R:l.length<=500)(J:m.length<=500)(C:∀x∈l,x.2.size=33)(b:∀x∈m,x.2.size=33)(n:∀x∈m,x.1<N)(w:Ur)(S:B<=w.heap.size)(G:Sm B w s l)(E:Sm B w t m):
 UH prog 194 #[s,t] w (rZ w λe w'=>Sm w.heap.size w' e (l++m.map (tmT N (sMi N 0 1)))):=by
 have D:1<N:=by have:2<=N:=UC O.n2 (Nat.mod_le _ _);omega
 have k:=Hid.mk' (IV O D);have g:sMi N 0 1<N:=V7 _ O.pos;generalize sMi N 0 1=o at k g⊢;have H:Hid (∀W,kZ w W->UH prog 164 #[t,nv o] W (rZ W λe w'=>Sm W.heap.size w' e (m.map (tmT N o)))):=λW z=>by
  have c:∀x∈m.map (·.2),x.size=33:=λx hx=>by obtain⟨y,d,rfl⟩:=Vn.1 hx;exact b y d
  exact eG O g B t m oM c n W (E.grow z)
 have U:Hid (∀W v,kZ w W->Sm w.heap.size W v (m.map (tmT N o))->UH prog 65 #[s,v] W (rZ W λe w'=>Sm W.heap.size w' e (l++m.map (tmT N o)))):=λW v z hv=>by
  refine rT B s v l (m.map (tmT N o)) p R (by rw[UQ];exact J) C (λx hx=>?_) W (G.grow z) (hv.mono S);obtain⟨y,d,rfl⟩:=Vn.1 hx;exact b y d
 obtain⟨Z,cs,P,-⟩:=id G;obtain⟨gt,ct,M,-⟩:=id E;subst P;subst M;obtain⟨v1,i⟩:=hE (nv 1);obtain⟨Y,c⟩:=hE (nv o);rw[i.out,c.out]at k;rw[c.out]at H;have F:=Hid.mk' (IY);rw[i.out]at F;go_enter func194,ntmps194;go_wp2_with fail
 refine(F w).mono ?_;rintro e Q ⟨V,rfl,f,rfl⟩;go_wp2_with fail
 refine(k Q).mono ?_;rintro e T ⟨V,rfl,A,rfl⟩;have j:=mk1 (f.trans (A.mono f.size));go_wp2_with fail
 refine(H T j.out).mono ?_;rintro e L ⟨K,rfl,u,r⟩;have d:=mk2 (j.trans (u.mono j.size)) (r.mono j.size);go_wp2_with fail
 refine(U L K d.1 d.2).mono ?_;rintro e w4 ⟨X,rfl,q,a⟩;have I:=mk2 (d.1.trans (q.mono d.1.size)) (a.mono d.1.size);go_wp2;go_ret;exact⟨_,rfl,I.1,I.2⟩
def encV(v:Ut):Ut:=v
omit [NeZero P] in
theorem KQ:(wr (none:EC.Pt P))=o33:=by
 show Hg=o33;decide +kernel
theorem Kh(q:Option Ww)(c:Nat)(w:Ur):UH prog 120 #[.func (.func 53) #[] #[],.slice q 0 c] w (rZ w λe w'=>∃K,e=.tuple #[sZ K 0 0,.bool true]):=by
 obtain⟨C0,g,d⟩:=Ru 0 dC;have k:(Instr.makeSlice 200 (iZ 0) (iZ 0)).run prog w=.ok (sZ w.heap.size 0 0) (w.alloc (.cells C0.toArray 103)):=d w;obtain⟨f,b⟩:∃f,Hid (w.alloc (.cells C0.toArray 103)=f):=⟨_,rfl⟩
 rw[b.out]at k;have j:Hid (kZ w f):=by rw[<-b.out];exact aC _ _
 clear d g b;go_enter func120,ntmps120;go_wp2;clear k;go_loopg [16] 0 (λm s16 W=>s16=iZ 0/\Hid (kZ w W))
 case atStart=>exact⟨rfl,j.out⟩
 case round =>
  obtain⟨rfl,i⟩:=hrel;go_wp2
  go_ret2
  exact⟨_,rfl,i.out,_,rfl⟩
end
section
open Go.RowKit Go.Sort Go.Deep SPA
variable {P:Nat}[NeZero P]{N:Nat}[NeZero N]
theorem S4(g j:Nat):(⟨g,0,none⟩:Ww).add j=⟨g,j,none⟩:=by
 simp[Addr.add];exact λh=>h.symm
theorem zU{W:Ur}{k n g c:Nat}{e:U8}{xs:List Ut}(h:W.ownsRow k e 1 (sZ g n c) n xs){u:Ut}(b:xs[j]? = some u):W.cell? ⟨g,j,none⟩=some u:=by
 have:=h.cells (g:=g) rfl j u b;rw[S4]at this;exact this
theorem wW{W:Ur}{k n:Nat}{e:U8}{v:Ut}{xs:List Ut}(h:W.ownsRow k e 1 v n xs)(b:0<n):∃g c,v=sZ g n c:=by
 rcases h with⟨-,⟨-,d⟩|⟨g,cap,cur,rfl,-⟩⟩
 ·omega
 ·exact⟨g,cap,rfl⟩
def PtL(Q:Nat->Prop)(W:Ur)(K t:Nat)(B:Nat->Bs):Prop:=∀j,j<t->Q K/\K<W.heap.size/\W.rangeAt K (33*j) (aA (B j))
theorem PtL.keep{Q:Nat->Prop}{W W':Ur}{K t:Nat}(h:PtL Q W K t B)(b:Kq Q W W'):PtL Q W' K t B:=λj d=>by
 obtain⟨k,c,f⟩:=h j d;refine⟨k,Ux c b.size,λi u e=>?_⟩;rw[UW (a:=⟨K,33*j+i,none⟩) (b.block K k c)];exact f i u e
theorem PtL.mono2{Q:Nat->Prop}{W:Ur}{K t:Nat}(h:PtL Q W K t B)(e:∀g,g<W.heap.size->Q g->Q' g):PtL Q' W K t B:=λj b=>by
 obtain⟨c,k,d⟩:=h j b;exact⟨e K k c,k,d⟩
theorem TlL.shape{Q:Nat->Prop}{k t:Nat}{W:Ur}{v:Ut}(h:TlL Q k t W v B):∃q c,v=.slice q t c:=by
 obtain⟨xs,⟨-,⟨rfl,b⟩|⟨g,cap,cur,rfl,-⟩⟩,-⟩:=h.ex
 ·exact⟨none,0,by rw[b]⟩
 ·exact⟨_,_,rfl⟩
theorem TlL.below{Q:Nat->Prop}{k t:Nat}{W W':Ur}{v:Ut}(h:TlL Q k t W v B)(b:kZ W W'):TlL Q k t W' v B:=h.keep (Kq.of_below b) λg c=>b.block g (h.lt c).2
theorem Kf(C:Fld P){Q:Nat->Prop}{b t:Nat}{W:Ur}{v:Ut}(m:t<=512)(h:TlL Q b t W v B)(s:∀j,j<t->∃p,rd P (B j)=some p):UH prog 120 #[.func (.func 53) #[] #[],v] W (rZ W λe w'=>∃K,e=.tuple #[sZ K t t,.bool true]/\PtL (W.heap.size<=·) w' K t B):=by
 rcases Nat.eq_zero_or_pos t with d|d
 ·obtain⟨q,c,rfl⟩:=h.shape;subst d;refine(Kh q c W).mono ?_;rintro e w' ⟨v,rfl,f,K,rfl⟩;exact⟨_,rfl,f,K,rfl,λj k=>absurd k (Nat.not_lt_zero _)⟩
 ·obtain⟨xs,l,o⟩:=h.ex;obtain⟨g,c,rfl⟩:=wW l d;refine(Ki C g t c m B W (h.lt (g:=g) rfl).2 λj k=>?_).mono ?_
  ·obtain⟨x,n,i⟩:=o j k;exact⟨x,zU l n,i.arg⟩
  ·rintro e w' ⟨v,rfl,f,h⟩;rcases h with⟨-,K,rfl,n,r,u⟩|⟨⟨j,k,i⟩,-⟩
   ·exact⟨_,rfl,f,K,rfl,λj k=>⟨n,r,u j k⟩⟩
   ·obtain⟨p,w⟩:=s j k;rw[w]at i;cases i
theorem ElQ.argS{Q:Nat->Prop}{W:Ur}{x:Ut}{b:Bs}(h:ElQ Q 32 W x b):Arg W x b:=by
 obtain⟨k,c,rfl,f,e,-,g,d⟩:=h;exact⟨_,32,c,rfl,e,λ_=>⟨k,0,rfl,f,g,d⟩⟩
def two{α:Type}(x y:α)(j:Nat):α:=if j=0 then x else y
theorem Uc(k d:Nat)(n c b e:Nat)(w:Ur):(Vy 24 2 #[(0,sZ k n c),(1,sZ d b e)]).run prog w=.ok (sZ w.heap.size 2 2) (w.alloc (.cells #[sZ k n c,sZ d b e] 23)):=kR
theorem Ub{Q:Nat->Prop}{W:Ur}{x y:Ut}{b d:Bs}(h:ElQ Q 32 W x b)(f:ElQ Q' 32 W y d)(w:Ur):(Vy 24 2 #[(0,x),(1,y)]).run prog w=.ok (sZ w.heap.size 2 2) (w.alloc (.cells #[x,y] 23)):=by
 obtain⟨k,c,rfl,-⟩:=h;obtain⟨e,g,rfl,-⟩:=f;exact Uc k e 32 c 32 g w
theorem Kb{Q:Nat->Prop}{W:Ur}{x y:Ut}{b c:Bs}(h:ElQ Q 32 W x b)(f:ElQ Q' 32 W y c):Args (W.alloc (.cells #[x,y] 23)) (some (aZ W.heap.size)) 2 (two b c):=λ_=>by
 have d:=aC W (.cells #[x,y] 23);have k:=aE W [x,y] 23;refine⟨_,rfl,k.1,λj e=>?_⟩;match j,e with
 | 0,_=>exact⟨x,k.2.1 0 _ rfl,h.argS.below d⟩
 | 1,_=>exact⟨y,k.2.1 1 _ rfl,f.argS.below d⟩
 | j+2,h=>omega
theorem Uh{l j m n:Nat->Prop}{b1 p t:Nat}{W:Ur}{d f b e:Ut}{q Rb:Nat->Bs}{A B:Bs}(g:TlL l b1 t W d q)(hR:TlL j p t W f Rb)(i:ElQ m 32 W b A)(o:ElQ n 32 W e B)(w:Ur):(Ve 26 (.agg #[d,f,b,e])).run prog w=.ok (jZ w.heap.size) (w.alloc (.cells #[d,f,b,e] 26)):=by
 obtain⟨r,c1,rfl⟩:=g.shape;obtain⟨v,c2,rfl⟩:=hR.shape;obtain⟨k,c,rfl,-⟩:=i;obtain⟨s,u,rfl,-⟩:=o;kernel_rfl
theorem uIr:(prog.underlying 202).map (·.isRow)=some true:=kR
theorem iIr:(prog.info? 202).map (·.size)=some 10:=kR
def inL(c k t a b:Nat):List Ut:=sZ c t t :: sZ k t t :: (wn a++wn b)
def inZ:List Ut:=[.slice none 0 0,.slice none 0 0,uZ 0,uZ 0,uZ 0,uZ 0,uZ 0,uZ 0,uZ 0,uZ 0]
theorem E9(c k t a b:Nat):(inL c k t a b).toArray.all (·.oneCell')=true:=kR
omit [NeZero N] in
theorem LV(C:Fld P)(O:Ord N){h1 t:Nat}(ht:t<=6){Lb Rb:Nat->Bs}{A B:Bs}{a b:Nat}{vL vR D E:Ut}(w:Ur)(hL:TlL (λ_=>True) h1 t w vL Lb)(hR:TlL (λ_=>True) h1 t w vR Rb)(hA:ElQ (λ_=>True) 32 w D A)(hB:ElQ (λ_=>True) 32 w E B)(hl:∀j,j<t->∃p,rd P (Lb j)=some p)(hr:∀j,j<t->∃p,rd P (Rb j)=some p)(ha:rq N A=some a)(hb:rq N B=some b):
 UH prog 119 #[.agg #[vL,vR,D,E],iZ t] w (rZ w λe w'=>∃q r,e=.tuple #[.agg (inL q r t a b).toArray,.bool true]/\PtL (w.heap.size<=·) w' q t Lb/\PtL (w.heap.size<=·) w' r t Rb):=by
 obtain⟨k,hk⟩:∃k,Hid (w.heap.size=k):=⟨_,rfl⟩
 obtain⟨J,V⟩:∃J,Hid (w.alloc (.cells #[vL,vR,D,E] 26)=J):=⟨_,rfl⟩
 obtain⟨R,h7⟩:∃R,Hid (J.alloc (.cells inZ.toArray 202)=R):=⟨_,rfl⟩
 obtain⟨vI,hvI⟩:∃v,Hid (U3 #[vL,vR,D,E]=v):=⟨_,rfl⟩
 have B1:Hid ((Ve 26 vI).run prog w=.ok (jZ k) J):=by rw[<-hvI.out,<-V.out,<-hk.out];exact Uh hL hR hA hB w
 obtain⟨q1,x1,rfl⟩:=hL.shape;obtain⟨q2,x2,rfl⟩:=hR.shape;have z1:J.heap.size=k+1:=by rw[<-V.out,UB,hk.out]
 have hz:=Hid.mk' z1;have b1:kZ w J:=by rw[<-V.out];exact aC _ _
 have b2:kZ J R:=by rw[<-h7.out];exact aC _ _
 have r1:Row J k [.slice q1 t x1,.slice q2 t x2,D,E]:=by rw[<-V.out,<-hk.out];exact aE w _ _
 have r2:Row R (k+1) inZ:=by rw[<-h7.out,<-z1];exact aE J _ _
 have hw:=b1.trans (b2.mono b1.size);have hn:=Hid.mk' (λ(W:Ur) (S:kZ w W)=>Kf C (v:=.slice q1 t x1) oM (hL.below S) hl);have he:=Hid.mk' (λ(W:Ur) (S:kZ w W)=>Kf C (v:=.slice q2 t x2) oM (hR.below S) hr);have G:=Hid.mk' (V3 (λ(W:Ur) (S:kZ w W)=>hA.keep (Kq.of_below S)) (λ(W:Ur) (S:kZ w W)=>hB.keep (Kq.of_below S)));have hs:=Hid.mk' (λ(W:Ur) (S:kZ w W)=>Kg O 2 2 dC (some (aZ W.heap.size)) (two A B) (two a b) (W.alloc (.cells #[D,E] 23)) (Kb (G.1 W S) (G.2 W S)) (λj hj=>by
  match j,hj with
  | 0,_=>exact ha
  | 1,_=>exact hb
  | j+2,h=>omega))
 have K2:Hid (Row R (k+1) inZ/\kZ w R/\Row R k [.slice q1 t x1,.slice q2 t x2,D,E]):=⟨r2,hw,r1.below b2⟩
 have c0:R.cell? ⟨k,0,none⟩=some (.slice q1 t x1):=(r1.below b2).2.1 0 _ rfl;have c1:R.cell? ⟨k,1,none⟩=some (.slice q2 t x2):=(r1.below b2).2.1 1 _ rfl;rw[hvI.out];clear b1 b2 r1 r2 hw z1 hL hR hA hB hvI hl hr ha hb;go_enter func119,ntmps119;go_wp2_with (first|(refine aF (u:=vI) (v:=jZ k) (w':=J) rfl 26 (.tmp 0) rfl ?_ ?_ ?_;rfl;exact B1.out)|(refine fB (v:=.pointer (some ⟨k+1,0,none⟩)) (w':=R) rfl 202 4 rfl rfl ?_ ?_;(rw[<-h7.out,<-hz.out];kernel_rfl))|fail)
 refine(hn R K2.2.1).mono ?_;rintro e w3 ⟨uu,rfl,Y,q,rfl,hu⟩;have b3:=K2.2.1.trans (Y.mono K2.2.1.size);have U:Hid (Row w3 (k+1) inZ/\kZ w w3/\Row w3 k [.slice q1 t x1,.slice q2 t x2,D,E]/\PtL (k+1 < ·) w3 q t Lb):=⟨K2.1.below Y,b3,K2.2.2.below Y,hu.mono2 λg _ T=>Ux K2.1.1 T⟩
 have k1:w3.cell? ⟨k,1,none⟩=some (.slice q2 t x2):=U.2.2.1.2.1 1 _ rfl;clear Y hu b3 K2 c0 c1 hn;go_wp2_with fail
 refine(he w3 U.2.1).mono ?_;rintro e s ⟨uu,rfl,H,r,rfl,hq⟩;have b4:=U.2.1.trans (H.mono U.2.1.size);have L:Hid (Row s (k+1) inZ/\kZ w s/\Row s k [.slice q1 t x1,.slice q2 t x2,D,E]/\PtL (k+1 < ·) s q t Lb/\PtL (k+1 < ·) s r t Rb):=⟨U.1.below H,b4,U.2.2.1.below H,U.2.2.2.keep (Kq.of_below H),hq.mono2 λg _ T=>Ux U.1.1 T⟩
 have k0:s.cell? ⟨k,2,none⟩=some D:=L.2.2.1.2.1 2 _ rfl;have hy:s.cell? ⟨k,3,none⟩=some E:=L.2.2.1.2.1 3 _ rfl;obtain⟨w5,Z⟩:∃W,Hid (s.alloc (.cells #[D,E] 23)=W):=⟨_,rfl⟩
 obtain⟨k5,h9⟩:∃n,Hid (s.heap.size=n):=⟨_,rfl⟩
 have HS:Hid ((Vy 24 2 #[(0,D),(1,E)]).run prog s=.ok (sZ k5 2 2) w5):=by rw[<-Z.out,<-h9.out];exact Ub (G.1 s L.2.1) (G.2 s L.2.1) s
 have h5:=hs.out s L.2.1;rw[Z.out,h9.out]at h5;have hp:=Hid.mk' h5;have M:kZ s w5:=by rw[<-Z.out];exact aC _ _
 have b5:=L.2.1.trans (M.mono L.2.1.size);have K5:Hid (Row w5 (k+1) inZ/\kZ w w5/\PtL (k+1 < ·) w5 q t Lb/\PtL (k+1 < ·) w5 r t Rb):=⟨L.1.below M,b5,L.2.2.2.1.keep (Kq.of_below M),L.2.2.2.2.keep (Kq.of_below M)⟩
 clear H hq b4 U k1 he h5 M b5 hs G;go_wp2_with (first|(refine jC (v:=sZ k5 2 2) (w':=w5) rfl 24 2 _ rfl #[(0,D),(1,E)] ?_ ?_ ?_;kernel_rfl;exact HS.out)|fail)
 refine hp.mono ?_;rintro e m ⟨uu,rfl,I,f,rfl,hc⟩;have K6:Hid (Row m (k+1) inZ/\kZ w m/\PtL (k+1 < ·) m q t Lb/\PtL (k+1 < ·) m r t Rb/\SLq (k+1 < ·) m (sZ f 2 2) 2 (two a b)):=⟨K5.1.below I,K5.2.1.trans (I.mono K5.2.1.size),K5.2.2.1.keep (Kq.of_below I),K5.2.2.2.keep (Kq.of_below I),hc.mono λg T=>Ux K5.1.1 T⟩
 have hE:m.rangeAt f 0 (wn a)/\m.rangeAt f 4 (wn b)/\k+1≠f:=by
  obtain⟨g,o,c,e,-,z,-,y⟩:=K6.2.2.2.2;injection e with e1
  injection e1 with e1
  injection e1 with e2 e3
  subst e2 e3;exact⟨y 0 dC,y 1 dC,Nat.ne_of_lt z⟩
 have F:=Hid.mk' hE;clear I hc K5 L hp HS k0 hy Z hE;go_wp2_with fail
 obtain⟨dS,Q,K⟩:=Uy.1 rSc;have z:m.drew.rangeAt f 0 (wn a)/\m.drew.rangeAt f 4 (wn b):=⟨F.1,F.2.1⟩
 refine anyS.begin (λ_ W=>W.rangeAt f 0 (wn a)/\W.rangeAt f 4 (wn b)) kR ?_;have X:∀(p:Nat),Bef (λ_ W=>YU W f 0 (wn a)/\YU W f 4 (wn b)) p m.drew:=λp=>⟨#[],by simp,z⟩
 refine anyS.val (i:=0) (d:=some 57) (x:=sZ q t t) rfl 9 (λ_ _ h=>h) (X 9) z ?_;simp only[UN,Us,Uu,Uv];refine anyS.val (i:=1) (d:=some 58) (x:=sZ r t t) rfl 9 (λ_ _ h=>h) (X 9) z ?_;simp only[UN,Us,Uu,Uv];refine anyS.val (i:=2) (d:=some 59) (x:=sZ f 2 2) rfl 9 (λ_ _ h=>h) (X 9) z ?_;simp only[UN,Us,Uu,Uv];refine anyS.val (i:=3) (d:=some 60) (x:=jZ f) rfl 9 (λ_ _ h=>h) (X 9) z ?_;simp only[UN,Us,Uu,Uv];refine anyS.row (i:=4) (d:=some 61) (cs:=wn a) rfl 9 (λ_ _ h=>h) 49 60 f 0 dS rfl Q K nSc (λW ⟨l,e,h⟩=>h.1) (X 9) z ?_;simp only[UN,Us,Uu,Uv];refine anyS.val (i:=5) (d:=some 62) (x:=sZ f 2 2) rfl 9 (λ_ _ h=>h) (X 9) z ?_;simp only[UN,Us,Uu,Uv];refine anyS.val (i:=6) (d:=some 63) (x:=oZ f 4) rfl 9 (λ_ _ h=>h) (X 9) z ?_;simp only[UN,Us,Uu,Uv];refine anyS.row (i:=7) (d:=some 64) (cs:=wn b) rfl 9 (λ_ _ h=>h) 49 63 f 4 dS rfl Q K nSc (λW ⟨l,e,h⟩=>h.2) (X 9) z ?_;simp only[UN,Us,Uu,Uv];clear X;refine anyS.nxt (i:=8) (d:=some 65) (x:=.agg (inL q r t a b).toArray) rfl z ?_;simp only[UN,Us,Uu,Uv];have hm:m.drew.there (k+1) 0 10:=K6.1.2.2;have y:∀g,g≠k+1->(m.drew.setCells (k+1) 0 (inL q r t a b)).heap[g]? = m.drew.heap[g]?:=λg h=>aH (k+1) _ 0 m.drew g h
 have S7:(m.drew.setCells (k+1) 0 (inL q r t a b)).rangeAt f 0 (wn a)/\(m.drew.setCells (k+1) 0 (inL q r t a b)).rangeAt f 4 (wn b):=⟨λj u hj=>by rw[UW (a:=⟨f,0+j,none⟩) (y f (YD F.2.2))];exact z.1 j u hj,λj u hj=>by rw[UW (a:=⟨f,4+j,none⟩) (y f (YD F.2.2))];exact z.2 j u hj⟩
 have r6:Row m.drew (k+1) inZ:=K6.1;have r7:Row (m.drew.setCells (k+1) 0 (inL q r t a b)) (k+1) (inL q r t a b):=r6.put rfl;have b7:kZ w (m.drew.setCells (k+1) 0 (inL q r t a b)):=RG.below_setCells (by rw[hk.out];exact Nat.le_succ _) _ _ _ K6.2.1.drew;have h3:Kq (k+1 < ·) m (m.drew.setCells (k+1) 0 (inL q r t a b)):=⟨by rw[setCells_size];exact Uw _,λg T _=>y g (We T)⟩
 have h8:=(K6.2.2.1.keep h3).mono2 (Q':=(w.heap.size<=·)) λg _ T=>by rw[hk.out];omega
 have h6:=(K6.2.2.2.1.keep h3).mono2 (Q':=(w.heap.size<=·)) λg _ T=>by rw[hk.out];omega
 refine anyS.sta (i:=9) (d:=none) rfl 202 (.tmp 4) (.tmp 65) rfl (k+1) 0 (inL q r t a b).toArray (E9 q r t a b) hm iIr S7 ?_;simp only[UN,Us,Uu,Uv];refine anyS.nxt (i:=10) (d:=some 5) (x:=.bool true) rfl S7 ?_;simp only[UN,Us,Uu,Uv];refine anyS.fin kR ?_ _;intro WZ hi;have h0:WZ=m.drew.setCells (k+1) 0 (inL q r t a b):=hi;rw[<-h0]at r7 b7 h8 h6;have KZ:=Hid.mk' (V3 r7 (V3 b7 (V3 h8 h6)));clear r6 r7 b7 h3 h8 h6 S7 z y hm hi h0 K6 F Q K;go_wp2_with fail
 refine UE (qD 4 5 202 rfl KZ.1 rfl rfl uIr iIr) rfl ?_;exact⟨_,rfl,KZ.2.1,q,r,rfl,KZ.2.2.1,KZ.2.2.2⟩
end
section
open Go Go.RowKit Go.Sort Go.Deep SPA
section
variable {P:VD}{ops:Array Vk}{Q:Yq->Act->Ur->Prop}{S:Array Bool->Ur->Prop}
theorem TE(a:Act){d e:WF}(h:d≠e)(v u:Ut):(a.put (some d) v).put (some e) u=(a.put (some e) u).put (some d) v:=by
 unfold UN;dsimp only;rw[Z8 _ _ h]
theorem anyS.calal{i c:Nat}{m l:Vk}{di dj:WF}{obj:Obj}{k:Array Bool}{a:Act}{w:Ur}{J O:Ut->Ur->Prop}{F:Ut->Nat->Ur->Prop}(r:ops[i]? = some m)(u:ops[j]? = some l)
 (U:UH P f args w (Ret J)) (C:UH P f args (w.alloc obj) (Ret O)) (B:S (k.setIfInBounds j true) (w.alloc obj))
 (T:∀v W',J v W'->S (k.setIfInBounds i true) W'/\S ((k.setIfInBounds i true).setIfInBounds j true) (W'.alloc obj)/\F v W'.heap.size (W'.alloc obj)) (R:∀v W',O v W'->S ((k.setIfInBounds i true).setIfInBounds j true) W'/\F v w.heap.size W')
 (p:∀(b:Act) (W:Ur),(U5 b.eval l).run P W=.ok (.value (jZ W.heap.size)) (W.alloc obj))
 (h:∀v b W',F v b W'->anyS P ops Q S c ((k.setIfInBounds i true).setIfInBounds j true) ((a.put (some di) v).put (some dj) (jZ b)) W')
 (hx:∀W,(U5 a.eval m).run P W=.ok (.enter f args) W:=by intro _;kernel_rfl) (y:∀(b:Nat) (W:Ur),(U5 (a.put (some dj) (jZ b)).eval m).run P W=.ok (.enter f args) W:=by intro _ _;kernel_rfl)
 (D:i≠j:=by decide) (G:di≠dj:=by decide) (I:U7 .any ops k=[i,j]:=by kernel_rfl) (d:U7 .any ops (k.setIfInBounds i true)=[j]:=by kernel_rfl) (E:U7 .any ops (k.setIfInBounds j true)=[i]:=by kernel_rfl)
 (o:m.guard=none:=by rfl) (s:l.guard=none:=by rfl) (t:m.dst=some di:=by kernel_rfl) (n:l.dst=some dj:=by kernel_rfl):anyS P ops Q S (c+2) k a w:=by
 refine⟨λN=>(by rw[I]at N;cases N),λq L=>?_⟩;rw[I]at L;have H:q=i\/q=j:=by simpa using L
 rcases H with rfl|rfl
 ·refine wpOp_step r λK z=>?_
  rw[yCl (bI o _)];unfold VT;rw[hx,Xb];refine U.mono ?_;rintro e W' ⟨v,rfl,hR⟩;obtain⟨s1,s2,x⟩:=T v W' hR;refine z _ _ ⟨s1,?_⟩;rw[t];refine anyS.step u d λM g=>?_
  rw[yCl (bI s _)];unfold VT;rw[p];show M (UN _ l.dst _) _;rw[n];exact g.out _ _ s2 (h v _ _ x)
 ·refine wpOp_step u λK z=>?_
  rw[yCl (bI s _)];unfold VT;rw[p];show K (a.put l.dst _) _;rw[n];refine z _ _ ⟨B,?_⟩;refine anyS.step r E λM g=>?_
  rw[yCl (bI o _)];unfold VT;rw[y,Xb];refine C.mono ?_;rintro e W' ⟨v,rfl,hR⟩;obtain⟨s2,x⟩:=R v W' hR;have d:=h v _ _ x;rw[Z8 _ _ D]at s2 d;rw[TE a G]at d;rw[t];exact g.out _ _ s2 d
end
variable {P:Nat}[NeZero P]{N:Nat}[NeZero N]
theorem Hw(C:Fld P)(k:∀r:EC.Pt P,On r->mul N r=none)(f:IsP N)(t:Nat)(L T:Nat->OnP P)(v:Md.Vs Bs (OnP P))(i m:Nat)(j:m=2^(t-(i+1)))(s:Bs)(c:Fin N)(g:chF N ((aD C k).vst (chF N) ivF t L T v i).s (L i) (T i)=(s,c)):
 (aD C k).vst (chF N) ivF t L T v (i+1)=⟨s,(aD C k).ad ((aD C k).ad ((aD C k).vst (chF N) ivF t L T v i).p ((aD C k).ac (c*c) (L i))) ((aD C k).ac (ivF (c*c)) (T i)),(aD C k).fP (ivF c) c m ((aD C k).vst (chF N) ivF t L T v i).g,(aD C k).fP c (ivF c) m ((aD C k).vst (chF N) ivF t L T v i).h⟩:=by
 have b:=P4 f ((aD C k).vst (chF N) ivF t L T v i).s (L i) (T i);rw[g]at b;have d:c.val≠0:=λe=>b (by
  have:c=0:=Fin.ext (e.trans (YO N).symm);show(c*c).val=0;rw[this];show(0%N*(0%N))%N=0;rw[YO,Nat.zero_mul,YO])
 rw[Md.Ic,RN f c d b,j];show(aD C k).Er (chF N) ivF (2^(t-(i+1))) (L i) (T i) ((aD C k).vst (chF N) ivF t L T v i)=_;unfold Md.Er;rw[g]
end
section
open Go.RowKit Go.Sort Go.Deep SPA
variable {P:Nat}[NeZero P]{N:Nat}[NeZero N]
def QR(r k g:Nat):Prop:=g≠r/\(g<k\/k+3<=g)
structure Lk(w W:Ur)(r k kl kr t a b n:Nat)(v sv:Ut)(Lb Rb:Nat->Bs)(L:Bs)(G H:Nat->List (Nat × Bs))(U l:List (Nat × Bs)):Prop where
 on:SP.Only r 0 32 w W
 rk:r<k
 wk:w.heap.size=k
 r0:Row W k (inL kl kr t a b)
 r1:Row W (k+1) [jZ r]
 r2:∃e:Array Ut,v=.agg e/\e.size=3/\e.all (·.oneCell')=true/\Row W (k+2) e.toList
 pl:PtL (QR r k) W kl t Lb
 pr:PtL (QR r k) W kr t Rb
 gr:GRq (QR r k) W v n G H U
 sm:SmQ (QR r k) W sv l
 lg:Holds encB W r 0 L
 ls:L.size=32
section
variable {w W W':Ur}{r k kl kr t a b n:Nat}{v sv:Ut}{Lb Rb:Nat->Bs}{L:Bs}{G H:Nat->List (Nat × Bs)}{U l:List (Nat × Bs)}
theorem Lk.any{d:Bs}(h:Lk w W r k kl kr t a b n v sv Lb Rb L G H U l)(p:SP.Only r 0 32 w W')(kq:Kq (QR r k) W W')(c:∀g,k<=g->g<k+3->W'.heap[g]? = W.heap[g]?)(o:Holds encB W' r 0 d)(f:d.size=32):Lk w W' r k kl kr t a b n v sv Lb Rb d G H U l:=by
 obtain⟨e,i,j,e3,m⟩:=h.r2;exact⟨p,h.rk,h.wk,aV h.r0 kq.size (c k oM oM),aV h.r1 kq.size (c _ oM oM),⟨e,i,j,e3,aV m kq.size (c _ oM oM)⟩,h.pl.keep kq,h.pr.keep kq,h.gr.keep kq,h.sm.keep kq,o,f⟩
theorem Lk.big(h:Lk w W r k kl kr t a b n v sv Lb Rb L G H U l):k+3<=W.heap.size:=by
 obtain⟨e,-,-,-,c⟩:=h.r2;exact c.1
theorem Lk.grow(h:Lk w W r k kl kr t a b n v sv Lb Rb L G H U l)(c:kZ W W'):Lk w W' r k kl kr t a b n v sv Lb Rb L G H U l:=by
 have d:=Holds.lt h.lg (by rw[h.ls];decide);exact h.any (h.on.trans (SP.Only.of_below c rfl d)) (Kq.of_below c) (λg e f=>c.block g (by have:=h.big;omega)) (Holds.below h.lg c d) h.ls
theorem Lk.drew(h:Lk w W r k kl kr t a b n v sv Lb Rb L G H U l):Lk w W.drew r k kl kr t a b n v sv Lb Rb L G H U l:=h.grow ⟨rfl,rfl,rfl,Uw _,λ_ _=>rfl⟩
theorem Lk.say{d:Bs}(h:Lk w W r k kl kr t a b n v sv Lb Rb L G H U l)(c:SP.Only r 0 32 W W')(f:Holds encB W' r 0 d)(e:d.size=32):Lk w W' r k kl kr t a b n v sv Lb Rb d G H U l:=by
 have i:=h.rk;exact h.any (h.on.trans c) (Kq.of_only c λg j=>j.1) (λg m o=>c.block g (by have:=h.big;omega) oM) f e
theorem Lk.qn(h:Lk w W r k kl kr t a b n v sv Lb Rb L G H U l):∀g,W.heap.size<=g->QR r k g:=λg c=>⟨by have:=h.rk;have:=h.big;omega,UX (by have:=h.big;omega)⟩
theorem Lk.hide{c:Ut}{l':List (Nat × Bs)}(h:Lk w W r k kl kr t a b n v sv Lb Rb L G H U l)(d:SmQ (QR r k) W c l'):Lk w W r k kl kr t a b n v c Lb Rb L G H U l':=⟨h.on,h.rk,h.wk,h.r0,h.r1,h.r2,h.pl,h.pr,h.gr,d,h.lg,h.ls⟩
theorem Lk.next{f:Nat}{e:Array Ut}{m i:Nat->List (Nat × Bs)}(h:Lk w W r k kl kr t a b n v sv Lb Rb L G H U l)(s:GRq (QR r k) W (.agg e) f m i U)(j:e.size=3)(o:e.all (·.oneCell')=true):Lk w (W.setCells (k+2) 0 e.toList) r k kl kr t a b f (.agg e) sv Lb Rb L m i U l:=by
 have c:∀g,g≠k+2->(W.setCells (k+2) 0 e.toList).heap[g]? = W.heap[g]?:=λg p=>aH (k+2) _ 0 W g p
 have d:W.heap.size<=(W.setCells (k+2) 0 e.toList).heap.size:=by rw[setCells_size];exact Uw _
 have kq:Kq (QR r k) W (W.setCells (k+2) 0 e.toList):=⟨d,λg q _=>c g (by have:=q.2;omega)⟩
 have y:=h.rk;obtain⟨z,-,u,-,x⟩:=h.r2;exact⟨jF h.on h.wk h.rk oM,h.rk,h.wk,aV h.r0 d (c k oM),aV h.r1 d (c _ oM),⟨e,rfl,j,o,x.put (by rw[UK,UK,j,u])⟩,h.pl.keep kq,h.pr.keep kq,s.keep kq,h.sm.keep kq,jM h.lg (c r oM),h.ls⟩
end
theorem SL(c k t a b:Nat)(w:Ur):(Ve 202 (.agg (inL c k t a b).toArray)).run prog w=.ok (jZ w.heap.size) (w.alloc (.cells (inL c k t a b).toArray 202)):=kR
theorem uPL:(prog.underlying 200).map (·.isRow)=some false:=kR
theorem EB{Q:Nat->Prop}{W:Ur}{g n:Nat}{p:Bs}(k:Row W g (wn n++aA p))(b:Q g):SmQ Q W (sZ g 1 1) [(n,p)]:=by
 have e:aU [(n,p)]=wn n++aA p:=by unfold aU;simp
 refine⟨g,1,rfl,Uw _,b,k.1,?_⟩;rw[e];exact k.2.1
theorem DL{k:VD}{o:Vk}{ev:XI->Ut}{I:Sem Ut}{v:Ut}{w:Ur}(h:I.run k w=.ok v w)(b:U5 ev o=I >>= λv=>pure (Xr v):=by kernel_rfl):(U5 ev o).run k w=.ok (.value v) w:=by
 rw[b,UV,h];rfl
theorem Lk.rd{w W W':Ur}{r k d t a b n:Nat}{v o:Ut}{j Rb:Nat->Bs}{L:Bs}{G H:Nat->List (Nat × Bs)}{U l:List (Nat × Bs)}(h:Lk w W r k e d t a b n v o j Rb L G H U l)(c:SP.Only r 0 32 W W'){i:Nat}(f:i<t):
 W'.rangeAt (k+1) 0 [jZ r]/\W'.cell? ⟨k,0,none⟩=some (sZ e t t)/\W'.cell? ⟨k,1,none⟩=some (sZ d t t)/\W'.rangeAt e (0+33*i) (aA (j i))/\W'.rangeAt d (0+33*i) (aA (Rb i)):=by
 have p:=h.rk;have kq:Kq (QR r k) W W':=Kq.of_only c λg m=>m.1
 rw[UD];exact⟨(h.r1.only c oM).2.1,(h.r0.only c oM).2.1 0 _ rfl,(h.r0.only c oM).2.1 1 _ rfl,((h.pl.keep kq) i f).2.2,((h.pr.keep kq) i f).2.2⟩
theorem Rr(h:1<N):(-1:Fin N).val=sMi N 0 1:=by
 have k:(1:Fin N).val=1:=by
  show 1%N=1;exact US h
 have b:(-1:Fin N).val=(N-(1:Fin N).val)%N:=Fin.val_neg' _;rw[b,k];unfold sMi;rw[UD]
omit [NeZero N] in
theorem KO(C:Fld P){X:EC.Pt P}(d:On X):wr X=o33↔X=none:=by
 rw[<-KQ (P:=P)];refine⟨λh=>?_,λh=>by rw[h]⟩;obtain⟨p,k,e⟩:=zM C d;obtain⟨q,c,b⟩:=zM C (iN (P:=P));rw[h,c]at k;injection k with k
 rw[<-e,<-b,k]
theorem Sj(C:Fld P)(O:Ord N)(k:∀r:EC.Pt P,On r->mul N r=none)(J:IsP N){Q:Nat->Prop}{c:Nat}{G H:Nat->List (Nat × Bs)}{U l:List (Nat × Bs)}{g h:Nat->OnP P}{u p:OnP P}(K:0<c)(E:c<=64)(hG:Gd N 1 c G g)(x:Gd N 1 c H h)(z:Tl N U u)(B:0<U.length)(I:U.length<=16)(t:Tl N l p)(D:l.length<=200)(a b:Fin N):
 ∃l' f Y,Y.size=33/\(Y=o33↔p=(aD C k).ad ((aD C k).ad ((aD C k).ac a (g 0)) ((aD C k).ac b (h 0))) ((aD C k).ac (a*b) u))/\(∀(W:Ur) (v va m:Ut),GRq Q W v 1 G H U->SLq Q W va 1 (λ_=>a.val)->SLq Q W m 1 (λ_=>b.val)->UH prog 158 #[v,va,m] W (rZ W λe w'=>Sm W.heap.size w' e l')) /\
  (∀(W:Ur) (s n:Ut),Sm 0 W s l'->Sm 0 W n l->UH prog 194 #[s,n] W (rZ W λe w'=>Sm W.heap.size w' e f)) /\
  (∀(W:Ur) (v:Ut),Sm 0 W v f->UH prog 67 #[v] W (rZ W λe w'=>e=pvl Y)):=by
 have F:=sN (by decide:0<1) K oM hG x z B I;obtain⟨w,f⟩:=Jj C k hG x z (d:=U.length) rfl (λ_=>a) (λ_=>b);rw[<-kE]at w f;have j:=w.app C k (t.tm C k (-1));rw[Rr J.1]at j;have y:=(aD C k).Oy ((aD C k).hd (λ_=>a) (λ_=>b) g h u 1) p;rw[(aD C k).Jl (λ_=>a) (λ_=>b) g h u]at y j;refine⟨_,_,_,aT _,(KO C (Subtype.property _)).trans ((Subtype.ext_iff (a2:=(aD C k).zo)).symm.trans y),λW v va m q o A=>Fg O 1 c G H U F _ _ (λi _=>a.isLt) (λi _=>b.isLt) v va m W q o A,λW s n q o=>wH O 0 s n _ l (by rw[f];omega) (by rw[f];omega) oM w.ok.sz t.ok.sz t.ok.lt W (WA _) q o,λW v hv=>?_⟩;exact j.point C O k (by rw[UA,f];omega) (by rw[UA,UQ,f];omega) hv
theorem NR{a b:Bs}(k:a.size=33)(d:b.size=33)(w:Ur):(binOp .eql 103 (pvl a) (pvl b)).run prog w=.ok (.bool (decide (a=b))) w:=by
 have c:(binOp .eql 103 (pvl a) (pvl b)).run prog w=(Op.equal 103 (pvl a) (pvl b) >>= λb=>pure (Value.bool b)).run prog w:=rfl;rw[c,UV,show(Op.equal 103 (pvl a) (pvl b)).run prog w=.ok (decide (a=b)) w from Sr k d w];rfl
theorem SI(n:Nat)(w:Ur):(Vy 124 1 #[(0,nv n)]).run prog w=.ok (sZ w.heap.size 1 1) (w.alloc (.cells (wn n).toArray 49)):=kR
theorem QL{Q:Nat->Prop}{W:Ur}{g n:Nat}(k:Row W g (wn n))(b:Q g):SLq Q W (sZ g 1 1) 1 (λ_=>n):=⟨g,0,1,rfl,Uw _,b,k.1,λj c=>by
 have:j=0:=oM;subst this;exact k.2.1⟩
theorem LR(C:Fld P)(O:Ord N)(f:∀r:EC.Pt P,On r->mul N r=none)(hP:IsP N)(t:Nat)(ht:t<=6)(E B:Nat->OnP P)(v0:Md.Vs Bs (OnP P))(u:OnP P)(G0 H0:Nat->List (Nat × Bs))(U l0:List (Nat × Bs))(dy:Gd N (2^t) 1 G0 v0.g)(d3:Gd N (2^t) 1 H0 v0.h)(hU:Tl N U u)(cv:0<U.length)(d7:U.length<=16)(ki:Tl N l0 v0.p)(c7:0<l0.length/\l0.length<=150)
 (q Rb:Nat->Bs) (df:∀j,q j=wP (E j)) (dk:∀j,Rb j=wP (B j)) (r D A:Nat) (a b:Fin N) (n sv:Ut) (w:Ur) (hL:Holds encB w r 0 v0.s) (bm:v0.s.size=32) (o:PtL (·≠r) w D t q) (G:PtL (·≠r) w A t Rb) (hv:GRq (·≠r) w n (2^t) G0 H0 U) (S:SmQ (·≠r) w sv l0) (Bd:Bool) (db:Bd=true↔(aD C f).KW u a b ((aD C f).vst (chF N) ivF t E B v0 t)) :
 UH prog 123 #[.agg (inL D A t a.val b.val).toArray,lgV r,n,sv] w (Ret λe w'=>SP.Only r 0 32 w w'/\e=.bool Bd):=by
 have hr:=Holds.lt hL (by rw[bm];decide);obtain⟨k,hk⟩:=hE (w.heap.size);obtain⟨e0,ct,dz,co⟩:=hv.ar;subst ct;obtain⟨w1,k3⟩:=hE (w.alloc (.cells (inL D A t a.val b.val).toArray 202));obtain⟨w2,k4⟩:=hE (w1.alloc (.cells #[jZ r] 145));obtain⟨w3,kt⟩:∃w3,Hid (w2.alloc (.cells e0 133)=w3):=⟨_,rfl⟩
 have z1:w1.heap.size=k+1:=by rw[<-k3.out,UB,hk.out]
 have z2:w2.heap.size=k+2:=by rw[<-k4.out,UB,z1]
 have d2:r<k:=by rw[<-hk.out];exact hr
 have K3:Hid (Lk w w3 r k D A t a.val b.val (2^t) (.agg e0) sv q Rb v0.s G0 H0 U l0):=by
  have b1:kZ w w1:=by rw[<-k3.out];exact aC _ _
  have b2:kZ w1 w2:=by rw[<-k4.out];exact aC _ _
  have L:kZ w2 w3:=by rw[<-kt.out];exact aC _ _
  have r1:Row w1 k (inL D A t a.val b.val):=by rw[<-k3.out,<-hk.out];exact aE w _ _
  have r2:Row w2 (k+1) [jZ r]:=by rw[<-k4.out,<-z1];exact aE w1 _ _
  have V:Row w3 (k+2) e0.toList:=by rw[<-kt.out,<-z2];exact aE w2 e0.toList 133
  have J:kZ w w3:=(b1.trans (b2.mono b1.size)).trans (L.mono (UC b1.size b2.size));have n:∀g,g<w.heap.size->g≠r->QR r k g:=λg hg H=>⟨H,U4 (by rw[<-hk.out];exact hg)⟩
  have kq:∀ {Q:Nat->Prop},Kq Q w w3:=Kq.of_below J;have K:SmQ (QR r k) w sv l0:=by
   obtain⟨g,c,h1,h2,R,M,T⟩:=S;exact⟨g,c,h1,h2,n g M R,M,T⟩
  exact⟨SP.Only.of_below J rfl hr,d2,hk.out,(r1.below b2).below L,r2.below L,⟨e0,rfl,dz,co,V⟩,(o.mono2 n).keep kq,(G.mono2 n).keep kq,(hv.mono2 n).keep kq,K.keep kq,Holds.below hL J hr,bm⟩
 obtain⟨vI,hvI⟩:=hE (U3 (inL D A t a.val b.val).toArray);obtain⟨vl,b9⟩:=hE (lgV r);obtain⟨vG,bz⟩:=hE (U3 e0);have B1:Hid ((Ve 202 vI).run prog w=.ok (jZ k) w1):=by rw[<-hvI.out,<-k3.out,<-hk.out];exact SL D A t a.val b.val w
 have B2:Hid ((Ve 145 vl).run prog w1=.ok (.pointer (some ⟨k+1,0,none⟩)) w2):=by rw[<-b9.out,<-k4.out,<-z1];exact Nb r w1
 have B3:Hid ((Ve 133 vG).run prog w2=.ok (.pointer (some ⟨k+2,0,none⟩)) w3):=by
  obtain⟨G,a2,H,o⟩:∃a b c,e0=#[a,b,c]:=by
   obtain⟨x1,x2,n,e,-⟩:=hv.ex;injection e with e
   exact⟨x1,x2,n,e⟩
  rw[<-bz.out,<-kt.out,<-z2,o];exact CL G a2 H w2
 have K4:Hid (∃v G H l,Gd N (2^(t-0)) (2^0) G ((aD C f).vst (chF N) ivF t E B v0 0).g/\Gd N (2^(t-0)) (2^0) H ((aD C f).vst (chF N) ivF t E B v0 0).h/\Tl N l ((aD C f).vst (chF N) ivF t E B v0 0).p/\l.length=l0.length+2*0/\Lk w w3 r k D A t a.val b.val (2^(t-0)) v sv q Rb ((aD C f).vst (chF N) ivF t E B v0 0).s G H U l):=⟨_,G0,H0,l0,dy,d3,ki,rfl,K3.out⟩
 have R:Hid ((∀j,q j=wP (E j))/\∀j,Rb j=wP (B j)):=⟨df,dk⟩
 have K:=mk7 C O hP hU cv d7 ht;have km:=Hid.mk' c7;clear c7;have bv:=Hid.mk' db;have c0:=K3.r0.2.1 0 _ rfl;rw[hvI.out,b9.out,bz.out];go_enter func123,ntmps123;go_wp2_with (first|(refine aF (u:=vI) (v:=jZ k) (w':=w1) rfl 202 (.tmp 0) rfl ?_ ?_ ?_;rfl;exact B1.out)|(refine aF (u:=vl) (v:=.pointer (some ⟨k+1,0,none⟩)) (w':=w2) rfl 145 (.tmp 1) rfl ?_ ?_ ?_;rfl;exact B2.out)|(refine aF (u:=vG) (v:=.pointer (some ⟨k+2,0,none⟩)) (w':=w3) rfl 133 (.tmp 2) rfl ?_ ?_ ?_;rfl;exact B3.out)|fail)
 go_loopg [3,16] t (λm s3 s16 W=>∃i:Nat,i+m=t/\s16=iZ i/\Hid (∃v G H l,Gd N (2^(t-i)) (2^i) G ((aD C f).vst (chF N) ivF t E B v0 i).g/\Gd N (2^(t-i)) (2^i) H ((aD C f).vst (chF N) ivF t E B v0 i).h/\Tl N l ((aD C f).vst (chF N) ivF t E B v0 i).p/\l.length=l0.length+2*i/\Lk w W r k D A t a.val b.val (2^(t-i)) v s3 q Rb ((aD C f).vst (chF N) ivF t E B v0 i).s G H U l))
 case atStart=>exact⟨0,oM,rfl,K4⟩
 case round =>
  obtain⟨i,e2,rfl,KM⟩:=hrel;by_cases hi:i<t
  ·have cu:(i:Int)<(t:Int):=oM;obtain⟨v,G,H,l,hG,hH,hl,kk,hR⟩:=KM.out;have HI:=Hid.mk' hi;obtain⟨m,hm⟩:∃m,m=2^(t-(i+1)):=⟨_,rfl⟩
   have kv:2^(t-i)=m+m:=by rw[hm,show t-i=t-(i+1)+1 by omega,V9];omega
   have c8:0<m:=by rw[hm];exact XK dC
   obtain⟨c,hc⟩:∃c,c=2^i:=⟨_,rfl⟩
   have k2:0<c:=by rw[hc];exact XK dC
   have cd:c*(m+m)<=64:=by
    rw[<-kv,hc,<-Nat.pow_add,show i+(t-i)=t by omega];exact UC (VA dC K.2.2.2.2.2.2) dC
   have HE:Hid (2^(t-(i+1))=m/\2^(i+1)=c+c):=⟨hm.symm,by rw[V9,hc];omega⟩
   rw[kv,<-hc]at hG hH;rw[kv]at hR;have de:=λ(s:Bs) (x:Fin N)=>Hw C f K.2.2.1 t E B v0 i m hm s x
   obtain⟨sx,n,kj,hw⟩:=JR K.2.1 K.2.2.1 r ((aD C f).vst (chF N) ivF t E B v0 i).s (E i) (B i) (q i) (Rb i) (R.1 i) (R.2 i);have c4:=de sx n kj.1;have HS:=Hid.mk' c4;have dp:(q i).size=33:=by rw[R.1 i];exact aT _
   have dm:(Rb i).size=33:=by rw[R.2 i];exact aT _
   have k0:=Hid.mk' (V3 dp dm);generalize dd:(aD C f).vst (chF N) ivF t E B v0 i=Vi at hG hH hl hR kj hw HS;have HG:=Hid.mk' (V3 hG (V3 hH (V3 hl (V3 kk (V3 c8 (V3 k2 cd))))));clear hG hH hl kk c8 k2 cd dd;have HR:=Hid.mk' hR;clear hR;go_wp2_with fail
   have R0:=HR.drew;have h7:=λ(W:Ur) (hO:SP.Only r 0 32 wr.drew W)=>R0.rd hO HI.out
   have O0:SP.Only r 0 32 wr.drew wr.drew:=SP.Only.of_below (UR _ _) rfl (Holds.lt R0.lg (by rw[R0.ls];decide));obtain⟨dL,c5,b8⟩:=Uy.1 uLg;obtain⟨dP,kc,kf⟩:=Uy.1 uCP;have cg:(prog.info? 103).map (·.size)=some (aA (q i)).length:=by rw[aB k0.1];exact iCP
   have bp:(prog.info? 103).map (·.size)=some (aA (Rb i)).length:=by rw[aB k0.2];exact iCP
   refine anyS.begin (λ_ W=>SP.Only r 0 32 wr.drew W) kR ?_;have bS:∀(p:Nat),Bef (λ_ W=>SP.Only r 0 32 wr.drew W) p wr.drew:=λp=>⟨#[],by simp,O0⟩
   refine anyS.row (i:=0) (d:=some 19) (cs:=[jZ r]) rfl 13 (λ_ _ h=>h) 145 5 (k+1) 0 dL rfl c5 b8 iLg (λW ⟨l,e,h⟩=>(h7 W h).1) (bS 13) O0 ?_;simp only[UN,Us,Uu,Uv];refine anyS.val (i:=1) (d:=some 20) (x:=jZ k) rfl 13 (λ_ _ h=>h) (bS 13) O0 ?_;simp only[UN,Us,Uu,Uv];refine anyS.cel (i:=2) (d:=some 21) (x:=sZ D t t) rfl 13 (λ_ _ h=>h) 200 20 k 0 rfl uPL (λW ⟨l,e,h⟩=>(h7 W h).2.1) (bS 13) O0 ?_;simp only[UN,Us,Uu,Uv];refine anyS.val (i:=3) (d:=some 22) (x:=iZ i) rfl 13 (λ_ _ h=>h) (bS 13) O0 ?_;simp only[UN,Us,Uu,Uv];refine anyS.val (i:=4) (d:=some 23) (x:=.pointer (some ⟨D,0+33*i,none⟩)) rfl 13 (λ_ _ h=>h) (bS 13) O0 ?_ (λW=>DL (I:=Vl 200 (sZ D t t) (iZ i)) (atP D 0 t t i HI.out W));simp only[UN,Us,Uu,Uv];refine anyS.row (i:=5) (d:=some 24) (cs:=aA (q i)) rfl 13 (λ_ _ h=>h) 103 23 D (0+33*i) dP rfl kc kf cg (λW ⟨l,e,h⟩=>(h7 W h).2.2.2.1) (bS 13) O0 ?_;simp only[UN,Us,Uu,Uv];refine anyS.val (i:=6) (d:=some 25) (x:=oZ k 1) rfl 13 (λ_ _ h=>h) (bS 13) O0 ?_;simp only[UN,Us,Uu,Uv];refine anyS.cel (i:=7) (d:=some 26) (x:=sZ A t t) rfl 13 (λ_ _ h=>h) 200 25 k 1 rfl uPL (λW ⟨l,e,h⟩=>(h7 W h).2.2.1) (bS 13) O0 ?_;refine anyS.val (i:=8) (d:=some 27) (x:=iZ i) rfl 13 (λ_ _ h=>h) (bS 13) O0 ?_;refine anyS.val (i:=9) (d:=some 28) (x:=.pointer (some ⟨A,0+33*i,none⟩)) rfl 13 (λ_ _ h=>h) (bS 13) O0 ?_ (λW=>DL (I:=Vl 200 (sZ A t t) (iZ i)) (atP A 0 t t i HI.out W));refine anyS.row (i:=10) (d:=some 29) (cs:=aA (Rb i)) rfl 13 (λ_ _ h=>h) 103 28 A (0+33*i) dP rfl kc kf bp (λW ⟨l,e,h⟩=>(h7 W h).2.2.2.2) (bS 13) O0 ?_;have h0:r<wr.drew.heap.size:=Holds.lt R0.lg (by rw[R0.ls];decide);have bA:=aC wr.drew (.cells #[uZ 0,uZ 0,uZ 0,uZ 0] 49);have oA:SP.Only r 0 32 wr.drew (wr.drew.alloc (.cells #[uZ 0,uZ 0,uZ 0,uZ 0] 49)):=SP.Only.of_below bA rfl h0;refine anyS.calal (i:=11) (j:=12) (di:=30) (dj:=10) (obj:=.cells #[uZ 0,uZ 0,uZ 0,uZ 0] 49) (F:=λv b W'=>v=nv n.val/\SP.Only r 0 32 wr.drew W'/\Holds encB W' r 0 sx/\wr.drew.heap.size<=b/\Row W' b [uZ 0,uZ 0,uZ 0,uZ 0]) rfl rfl (hw wr.drew R0.lg R0.ls) (hw _ (Holds.below R0.lg bA h0) R0.ls) oA ?_ ?_ (by intro _ _;kernel_rfl) ?_
   ·rintro v W' ⟨hO,hH,rfl⟩;have J:=aC W' (.cells #[uZ 0,uZ 0,uZ 0,uZ 0] 49);have o:=Ux h0 hO.size;exact⟨hO,hO.trans (SP.Only.of_below J rfl o),rfl,hO.trans (SP.Only.of_below J rfl o),Holds.below hH J o,hO.size,aE W' _ _⟩
   ·rintro v W' ⟨hO,hH,rfl⟩;exact⟨oA.trans hO,rfl,oA.trans hO,hH,Uw _,(aE wr.drew [uZ 0,uZ 0,uZ 0,uZ 0] 49).only hO (We h0)⟩
   ·rintro xv k7 W4 ⟨rfl,c9,ck,k1,ku⟩;have kn:SP.Only r 0 32 wr.drew (W4.setCells k7 0 (wn n.val)):=dW c9 h0 k1 0;refine anyS.sta (i:=13) (d:=none) rfl 49 (.tmp 10) (.tmp 30) rfl k7 0 (wn n.val).toArray (aM _) ku.2.2 nSc kn ?_;simp only[UN,Us,Uu,Uv];refine anyS.fin kR ?_ _;intro W5 bu;have hq:=bu;have R5:Lk w W5 r k D A t a.val b.val (m+m) v u3 q Rb sx G H U l:=by rw[hq];exact R0.say kn (fE ck oM) kj.2
    have r5:Row W5 k7 (wn n.val):=by rw[hq];exact ku.put rfl
    obtain⟨x,h6⟩:=hE (n.val);obtain⟨J,Y⟩:=hE ((n*n).val);obtain⟨xi,hn⟩:=hE ((ivF (n*n)).val);have d9:Hid (∀W:Ur,UH prog 79 #[nv x,nv x] W (rZ W λe w'=>e=nv J)):=by
     rw[<-h6.out,<-Y.out];exact λW=>iI K.2.1 n.val n.val n.isLt n.isLt W
    have dw:Hid (∀W:Ur,UH prog 159 #[nv J] W (rZ W λe w'=>e=nv xi)):=by
     rw[<-Y.out,<-hn.out];exact λW=>uS K.2.1 (n*n).val (n*n).isLt W
    rw[h6.out]at r5;rw[h6.out];have K5:=Hid.mk' (V3 R5 r5);clear R5 r5 hq bu kn c9 ck k1 ku R0 h7 O0 oA bA h0 HR hw;obtain⟨vx,h9⟩:=hE (nv x);have bf:Hid (∀W:Ur,UH prog 79 #[vx,vx] W (rZ W λe w'=>e=nv J)):=by rw[<-h9.out];exact d9.out
    obtain⟨dS,k9,ka⟩:=Uy.1 rSc;rw[h9.out];go_wp2_with (first|(refine ldR 10 K5.2.2.1 h9 rSc nSc ?_)|fail)
    refine(bf W5).mono ?_;rintro e W6 ⟨uu,rfl,bn,rfl⟩;obtain⟨kh,hp⟩:=hE (W6.heap.size);obtain⟨W7,bt⟩:=hE (W6.alloc (.cells #[uZ 0,uZ 0,uZ 0,uZ 0] 49));obtain⟨T,kz⟩:=hE (W7.setCells kh 0 (wn J));have F7:Hid (Row W7 kh [uZ 0,uZ 0,uZ 0,uZ 0]/\kZ W6 W7):=by rw[<-bt.out,<-hp.out];exact⟨aE W6 _ _,aC _ _⟩
    have b6:kZ W5 T:=by
     have:kZ W6 T:=by rw[<-kz.out];exact RG.below_setCells (by rw[hp.out];exact Uw _) _ _ _ F7.2
     exact bn.trans (this.mono bn.size)
    have K8:Hid (Lk w T r k D A t a.val b.val (m+m) v u3 q Rb sx G H U l/\Row T k7 (wn x)/\Row T kh (wn J)):=⟨K5.1.grow b6,K5.2.below b6,by rw[<-kz.out];exact F7.1.put rfl⟩
    obtain⟨vq,kg⟩:=hE (nv J);rw[kg.out];go_wp2_with (first|(refine alR 11 hp bt ?_)|(refine stR 11 kz kg F7.1.2.2 nSc (aM J) ?_)|fail)
    have d6:∀(W:Ur),kZ T W->∀g,W.heap.size<=g->QR r k g:=λW o g hg=>K8.1.qn g (UC o.size hg)
    have o8:∀(W:Ur),kZ T W->SP.Only r 0 32 T W:=λW o=>SP.Only.of_below o rfl (Holds.lt K8.1.lg (by rw[K8.1.ls];decide))
    have h8:=Hid.mk' (λ(W:Ur) (o:kZ T W)=>K8.1.rd (o8 W o) HI.out);have he:=Hid.mk' d6;have tk:=HG.2.2.1.ok;have bj:TOk N [(J,q i)]:=by rw[<-Y.out,R.1 i];exact(Tl.pt C f (n*n) (E i)).ok
    have du:TOk N [(xi,Rb i)]:=by rw[<-hn.out,R.2 i];exact(Tl.pt C f (ivF (n*n)) (B i)).ok
    have e1:l.length<=200:=by have:=HG.2.2.2.1;have:=K.2.2.2.2.2.2;have:=HI.out;have:=km.2;omega
    have ki:0<l.length:=by have:=HG.2.2.2.1;have:=km.1;omega
    have cn:=Hid.mk' (λW=>kU (q i) k0.1 J W);have bs:=Hid.mk' (λW=>kU (Rb i) k0.2 xi W);have b5:=Hid.mk' (λ(s1 s2:Ut) (W:Ur) (h1:Sm 0 W s1 l) (h2:Sm 0 W s2 [(J,q i)])=>rT 0 s1 s2 l [(J,q i)] ki oM (by simp) tk.sz bj.sz W h1 h2);have bq:=Hid.mk' (λ(s1 s2:Ut) (W:Ur) (h1:Sm 0 W s1 (l++[(J,q i)])) (h2:Sm 0 W s2 [(xi,Rb i)])=>rT 0 s1 s2 (l++[(J,q i)]) [(xi,Rb i)] (by simp) (by simp;omega) (by simp) (tk.app bj).sz du.sz W h1 h2);rw[<-kg.out];refine(gwL [pE u3,pE (jZ k),pE (sZ D t t),pE (iZ i),pE (.pointer (some ⟨D,0+33*i,none⟩)),pE (pvl (q i)),pE (nv J),pM (QR r k) [(J,q i)],pM (QR r k) (l++[(J,q i)]),pE (oZ k 1),pE (sZ A t t),pE (iZ i),pE (.pointer (some ⟨A,0+33*i,none⟩)),pE (pvl (Rb i)),pE (nv J),pE (nv xi),pM (QR r k) [(xi,Rb i)],pM (QR r k) (l++[(J,q i)]++[(xi,Rb i)])] (λW=>kZ T W) (λW W' hb h=>h.trans (hb.mono h.size))).tail2 18 kR kR kR ⟨
     gO 3 u3,
     gO 4 (jZ k),
     fF 200 1 35 k 0 (sZ D t t) uPL (λx W h=>h) (λW o=>(h8 W o).2.1) (λ_=>rfl),
     gO 9 (iZ i),
     RG.gX 2 36 3 37 (atP D 0 t t i HI.out),
     gLr 4 38 (λW o=>(h8 W o).2.2.2.1) uCP cg,
     gLo 11 (λW o=>RG.range_below K8.2.2.2.1 o K8.2.2.1) rSc nSc,
     eD 5 39 6 40 64 (λx y=>#[x,y]) (λz y W hx L o=>by
      obtain rfl:z=pvl (q i):=hx;obtain rfl:y=nv J:=L;refine(cn W).mono ?_;rintro e W' ⟨uu,rfl,hb,g,rfl,hg,M⟩;exact⟨_,rfl,hb,EB M (he W o g hg)⟩),
     eD 0 34 7 41 65 (λx y=>#[x,y]) (λz y W hx L o=>by
      obtain rfl:z=u3:=hx;have L:=L;refine(b5 z y W ((K8.1.grow o).sm.sm) L.sm).mono ?_;rintro e W' ⟨uu,rfl,hb,S⟩;exact⟨_,rfl,hb,S.q.mono λg hg=>he.out W o g hg⟩),
     gP 4 (jZ k) (oZ k 1),
     fF 200 9 43 k 1 (sZ A t t) uPL (λx W h=>h) (λW o=>(h8 W o).2.2.1) (λ_=>rfl),
     gO 9 (iZ i),
     RG.gX 10 44 11 45 (atP A 0 t t i HI.out),
     gLr 12 46 (λW o=>(h8 W o).2.2.2.2) uCP bp,
     gLo 11 (λW o=>RG.range_below K8.2.2.2.1 o K8.2.2.1) rSc nSc,
     oW 14 48 159 (λx=>#[x]) (λz W hx o=>by
      obtain rfl:z=nv J:=hx;exact dw.out W),
     eD 13 47 15 49 64 (λx y=>#[x,y]) (λz y W hx L o=>by
      obtain rfl:z=pvl (Rb i):=hx;obtain rfl:y=nv xi:=L;refine(bs W).mono ?_;rintro e W' ⟨uu,rfl,hb,g,rfl,hg,M⟩;exact⟨_,rfl,hb,EB M (he W o g hg)⟩),
     eD 8 42 16 50 65 (λx y=>#[x,y]) (λz y W hx L o=>by
      have hx:=hx;have L:=L;refine(bq z y W hx.sm L.sm).mono ?_;rintro e W' ⟨uu,rfl,hb,S⟩;exact⟨_,rfl,hb,S.q.mono λg hg=>he.out W o g hg⟩),yCn⟩ (UR _ _).drew ?_
    intro V W9 b7 b4;have kb:=b7 17 dC;have K9:=mk2 ((K8.1.grow b4).hide kb) (K8.2.1.below b4);dsimp only[bU,VK,Xn,Xo];generalize V 17=s17 at K9⊢;clear kb b7 b4 K8 h8 he cn bs b5 bq;generalize V 0=y0;generalize V 1=y1;generalize V 2=y2;generalize V 3=y3;generalize V 4=y4;generalize V 5=y5;generalize V 6=y6;generalize V 7=y7;generalize V 8=y8;generalize V 9=y9;generalize V 10=ya;generalize V 11=yb;generalize V 12=yc;generalize V 13=yd;generalize V 14=ye;generalize V 15=yf;generalize V 16=yg;clear V;obtain⟨ev,k6,L,ke,X⟩:=K9.1.r2;have ba:GOk N (m+m) c G H U:=sN (by have:=HG.2.2.2.2.1;omega) HG.2.2.2.2.2.1 HG.2.2.2.2.2.2 HG.1 HG.2.1 K.2.2.2.1 K.2.2.2.2.1 K.2.2.2.2.2.1;obtain⟨xo,k8⟩:∃x,Hid ((ivF n).val=x):=⟨_,rfl⟩
    have ci:x<N:=by rw[<-h6.out];exact n.isLt
    have cf:sIn N x=xo:=by rw[<-h6.out,<-k8.out];rfl
    have k5:=Fq K.2.1 m c HG.2.2.2.2.1 G H U ba x ci v W9 K9.1.qn K9.1.gr;rw[cf]at k5;obtain⟨yv,ha⟩:∃y,Hid (v=y):=⟨_,rfl⟩
    have M:Hid (U3 ev.toList.toArray=yv/\Row W9 (k+2) ev.toList/\(prog.info? 133).map (·.size)=some ev.toList.length/\ev.size=3):=⟨k6.symm.trans ha.out,X,by rw[UK,L];exact iGr,L⟩
    rw[ha.out,h9.out]at k5;have dl:=Hid.mk' k5;obtain⟨dG,S,Z⟩:=Uy.1 uGr;have bk:Hid (prog.underlying 133=some dG/\dG.isRow=true):=⟨S,Z⟩
    clear k6 L ke X ba ci cf k5 S Z;go_wp2_with (first|(refine U6 rfl 133 (.tmp 6) rfl (k+2) 0 ?_ ev.toList dG ?_ ?_ ?_ ?_ ?_;rfl;exact M.2.1.2.1;exact bk.1;exact bk.2;exact M.2.2.1;rw[M.1])|(refine ldR 10 K9.2.2.1 h9 rSc nSc ?_)|fail)
    refine dl.mono ?_;rintro e Wa ⟨vf,rfl,cj,c6⟩;obtain⟨ef,d8,hu,kd⟩:=c6.ar;subst d8;have La:=(K9.1.grow cj).next c6 hu kd;obtain⟨Wb,bg⟩:∃W,Hid (Wa.setCells (k+2) 0 ef.toList=W):=⟨_,rfl⟩
    rw[bg.out]at La;have ko:Hid (Wa.there (k+2) 0 ef.size/\(prog.info? 133).map (·.size)=some ef.size/\ef.all (·.oneCell')=true):=by
     refine⟨?_,by rw[hu];exact iGr,kd⟩;rw[hu];have:=(M.2.1.below cj).2.2;rw[UK,M.2.2.2]at this;exact this
    have bh:Hid (∃v G H l,Gd N (2^(t-(i+1))) (2^(i+1)) G ((aD C f).vst (chF N) ivF t E B v0 (i+1)).g/\Gd N (2^(t-(i+1))) (2^(i+1)) H ((aD C f).vst (chF N) ivF t E B v0 (i+1)).h/\Tl N l ((aD C f).vst (chF N) ivF t E B v0 (i+1)).p/\l.length=l0.length+2*(i+1)/\Lk w Wb r k D A t a.val b.val (2^(t-(i+1))) v s17 q Rb ((aD C f).vst (chF N) ivF t E B v0 (i+1)).s G H U l):=by
     show ∃v G H l,_;rw[HS.out,HE.1,HE.2];have g1:=HG.1.fold C f (ivF n) n;have g2:=HG.2.1.fold C f n (ivF n);rw[h6.out,k8.out]at g1 g2;have tl:=(HG.2.2.1.app C f (Tl.pt C f (n*n) (E i))).app C f (Tl.pt C f (ivF (n*n)) (B i));rw[Y.out,hn.out]at tl;have cq:Tl N (l++[(J,q i)]++[(xi,Rb i)]) ((aD C f).ad ((aD C f).ad Vi.p ((aD C f).ac (n*n) (E i))) ((aD C f).ac (ivF (n*n)) (B i))):=by rw[R.1 i,R.2 i];exact tl
     exact⟨_,_,_,_,g1,g2,cq,by have:=HG.2.2.2.1;simp;omega,La⟩
    obtain⟨vo,bi⟩:=hE (U3 ef);rw[bi.out];go_wp2_with (first|(refine U2 rfl 133 (.tmp 6) _ rfl (k+2) 0 ef ?_ ?_ ?_ ?_ ?_ ?_;rfl;exact bi.symm;exact ko.1;exact ko.2.1;exact ko.2.2;rw[bg.out])|fail)
    go_roundg (gk-1)
    case measure=>have:=HI.out;omega
    case rel=>exact⟨i+1,by have:=HI.out;omega,rfl,bh⟩
  ·have cu:¬(i:Int)<(t:Int):=oM;have cz:i=t:=oM;obtain⟨v,G,H,l,hG,hH,hl,kk,hR⟩:=KM.out;subst cz;rw[Nat.sub_self,Nat.pow_zero]at hG hH hR;have k2:0<2^i:=XK dC;have bl:2^i<=64:=UC (VA dC K.2.2.2.2.2.2) dC;obtain⟨l1,l2,Y,d1,dh,cH,cM,cP⟩:=Sj (Q:=QR r k) C K.2.1 f K.2.2.1 k2 bl hG hH K.2.2.2.1 K.2.2.2.2.1 K.2.2.2.2.2.1 hl (by have:=K.2.2.2.2.2.2;have:=km.2;omega) a b;have cy:decide (Y=o33)=Bd:=by
    have h2:=dh.trans bv.symm;cases Bd with
    | true=>exact decide_eq_true (h2.2 rfl)
    | false=>exact decide_eq_false λh=>Bool.false_ne_true (h2.1 h)
   obtain⟨ev,k6,L,ke,X⟩:=hR.r2;obtain⟨g1,ky⟩:=hE (wr.heap.size);obtain⟨o,V⟩:=hE (wr.alloc (.cells (wn a.val).toArray 49));obtain⟨g2,J⟩:∃g,Hid (o.heap.size=g):=⟨_,rfl⟩
   obtain⟨W2,kp⟩:∃W,Hid (o.alloc (.cells (wn b.val).toArray 49)=W):=⟨_,rfl⟩
   have b1:kZ wr o:=by rw[<-V.out];exact aC _ _
   have b2:kZ o W2:=by rw[<-kp.out];exact aC _ _
   have r1:Row o g1 (wn a.val):=by rw[<-V.out,<-ky.out];exact aE wr _ _
   have r2:Row W2 g2 (wn b.val):=by rw[<-kp.out,<-J.out];exact aE o _ _
   have L1:=hR.grow b1;have L2:=L1.grow b2;have q1:QR r k g1:=by rw[<-ky.out];exact hR.qn _ (Uw _)
   have q2:QR r k g2:=by rw[<-J.out];exact L1.qn _ (Uw _)
   have br:=cH W2 v _ _ L2.gr (QL (r1.below b2) q1) (QL r2 q2);obtain⟨yv,ha⟩:∃y,Hid (v=y):=⟨_,rfl⟩
   obtain⟨va,bo⟩:∃y,Hid (nv a.val=y):=⟨_,rfl⟩
   obtain⟨vb,be⟩:∃y,Hid (nv b.val=y):=⟨_,rfl⟩
   rw[ha.out]at br;have ra:∀ {W:Ur},Row W k (inL D A i a.val b.val)->W.rangeAt k 2 (wn a.val)/\W.rangeAt k 6 (wn b.val):=λhW=>⟨λj z n=>by
    have:=hW.2.1 (2+j) z (by
     have T:j<4:=(UF.1 n).1;match j,T with
     | 0,_=>exact n
     | 1,_=>exact n
     | 2,_=>exact n
     | 3,_=>exact n
     | j+4,h=>omega)
    rw[UD]at this;exact this,λj z n=>by
    have:=hW.2.1 (6+j) z (by
     have T:j<4:=(UF.1 n).1;match j,T with
     | 0,_=>exact n
     | 1,_=>exact n
     | 2,_=>exact n
     | 3,_=>exact n
     | j+4,h=>omega)
    rw[UD]at this;exact this⟩
   have S1:Hid ((Vy 124 1 #[(0,va)]).run prog wr=.ok (sZ g1 1 1) o):=by rw[<-bo.out,<-ky.out,<-V.out];exact SI a.val wr
   have S2:Hid ((Vy 124 1 #[(0,vb)]).run prog o=.ok (sZ g2 1 1) W2):=by rw[<-be.out,<-J.out,<-kp.out];exact SI b.val o
   have T:=mk3 ((ra hR.r0).1) ((ra L1.r0).2) X.2.1;have M:Hid (U3 ev.toList.toArray=yv/\(prog.info? 133).map (·.size)=some ev.toList.length):=⟨k6.symm.trans ha.out,by rw[UK,L];exact iGr⟩
   obtain⟨dG,S,Z⟩:=Uy.1 uGr;obtain⟨dS,k9,ka⟩:=Uy.1 rSc;have HD:Hid ((prog.underlying 133=some dG/\dG.isRow=true)/\prog.underlying 49=some dS/\dS.isRow=true):=⟨⟨S,Z⟩,k9,ka⟩
   have ds:=Hid.mk' br;have kw:=Hid.mk' (V3 cM cP);have d5:=Hid.mk' L2;obtain⟨vz,dq⟩:=hE (U3 z33.toArray);obtain⟨vy,bd⟩:=hE (pvl Y);rw[bd.out]at kw;have HZ:Hid (∀W,(binOp .eql 103 vy vz).run prog W=.ok (.bool Bd) W/\(Instr.build 103 #[]).run prog W=.ok vz W/\(eqGuard .eql 103 (.tmp 67) (.tmp 68) vy vz).run prog W=.ok () W):=by
    rw[<-dq.out,<-bd.out,<-cy];exact λW=>⟨by rw[My];exact NR d1 rfl W,NW W,by unfold pvl;kernel_rfl⟩
   go_wp2_with (first|(refine U6 rfl 133 (.tmp 6) rfl (k+2) 0 ?_ ev.toList dG ?_ ?_ ?_ ?_ ?_;rfl;exact T.2.2;exact HD.1.1;exact HD.1.2;exact M.2;rw[M.1])|(refine ldR 57 T.1 bo rSc nSc ?_)|(refine ldR 60 T.2.1 be rSc nSc ?_)|(refine jC (v:=sZ g1 1 1) (w':=o) rfl 124 1 _ rfl #[(0,va)] ?_ ?_ ?_;kernel_rfl;exact S1.out)|(refine jC (v:=sZ g2 1 1) (w':=W2) rfl 124 1 _ rfl #[(0,vb)] ?_ ?_ ?_;kernel_rfl;exact S2.out)|fail)
   refine ds.mono ?_;rintro e W3 ⟨s1,rfl,d4,cp⟩;have L3:=d5.grow d4;have kx:=Hid.mk' (V3 L3 (show Sm 0 W3 s1 l1 from by
    obtain⟨g,c,x1,x2,-,x4⟩:=cp;exact⟨g,c,x1,x2,WA _,x4⟩))
   go_wp2_with fail
   refine(kw.1 W3 s1 u3 kx.2 kx.1.sm.sm).mono ?_;rintro e W4 ⟨s2,rfl,k1,d0⟩;have L4:=kx.1.grow k1;have c3:=Hid.mk' (V3 L4 (show Sm 0 W4 s2 l2 from by
    obtain⟨g,c,x1,x2,-,x4⟩:=d0;exact⟨g,c,x1,x2,WA _,x4⟩))
   go_wp2_with fail
   refine(kw.2 W4 s2 c3.2).mono ?_;rintro e W5 ⟨uu,rfl,da,dx⟩;have bc:=dx.symm;subst bc;have L5:=Hid.mk' (c3.1.grow da).on;go_wp2_with (first|(refine lJ (v:=vz) (w':=W5) rfl 103 _ rfl #[] ?_ ?_ ?_;kernel_rfl;exact(HZ W5).2.1)|(refine bG (v:=.bool Bd) (w':=W5) rfl (.binOp .eql 103 (.tmp 67) (.tmp 68) 103) rfl ?_ ?_;exact DL (I:=eqGuard .eql 103 (.tmp 67) (.tmp 68) vy vz >>= λ_=>binOp .eql 103 vy vz) (by rw[UV,(HZ W5).2.2];exact(HZ W5).1))|fail)
   go_ret;exact⟨_,rfl,L5.out,rfl⟩
end
section
open Go.RowKit Go.Sort Go.Deep SPA
variable {P:Nat}[NeZero P]{N:Nat}
noncomputable def gPG (C:Fld P):OnP P:=⟨gG P,Cs C⟩
noncomputable def hPV (C:Fld P):OnP P:=lPt C iE []
theorem MS(n m:Nat):cmt P n m=EC.add (mul n (.some (hpt P iE []))) (mul m (gG P)):=by
 unfold cmt;generalize (.some (hpt P iE []):EC.Pt P)=H;show EC.add (EC.add none (eF ((n:Nat):Int) H)) (eF ((m:Nat):Int) (gG P))=_;rw[jJ];rfl
section
variable [NeZero N]
theorem yB(C:Fld P)(k:∀r:EC.Pt P,On r->mul N r=none)(a b:Fin N):wr (cmt P a.val b.val)=wP ((aD C k).cm (hPV C) (gPG C) a b):=by
 rw[MS];rfl
structure RvL(C:Fld P)(hord:∀r:EC.Pt P,On r->mul N r=none)(R:Rv N)(V A S C1 C2 L3 L6 L8:Bs):Prop where
 eV:V=wP (R.pV (aD C hord) (gPG C) (hPV C))
 eA:A=wP (R.pA (aD C hord) (gPG C) (gPt C ⟨#[108,101,102,116]⟩) (gPt C ⟨#[114,105,103,104,116]⟩))
 eS:S=wP (R.pS (aD C hord) (gPG C) (gPt C ⟨#[108,101,102,116]⟩) (gPt C ⟨#[114,105,103,104,116]⟩))
 e1:C1=wP (R.p1 (aD C hord) (gPG C) (hPV C))
 e2:C2=wP (R.p2 (aD C hord) (gPG C) (hPV C))
 l3:L3=bgL V R.n A S
 y:R.y=kM N L3
 z:R.z=kM N (bB L3)
 l6:L6=mdL (bB (bB L3)) C1 C2
 x:R.x=kM N L6
 l8:L8=enL (bB L6) R.tau.val R.mu.val R.t.val
 w:R.w=kM N L8
structure RvS(R:Rv N)(sd:List UInt8):Prop where
 s:∀i,(R.s i).val=chL N [115,108] [sd,(hZ i).toList]
 q:∀i,(R.q i).val=chL N [115,114] [sd,(hZ i).toList]
 al:R.al.val=chL N [97,108,112,104,97] [sd]
 rho:R.rho.val=chL N [114,104,111] [sd]
 t1:R.t1.val=chL N [116,97,117,49] [sd]
 t2:R.t2.val=chL N [116,97,117,50] [sd]
end
theorem Ue(q:Option Ww)(n c:Nat)(w:Ur):(Vy 24 1 #[(0,.slice q n c)]).run prog w=.ok (sZ w.heap.size 1 1) (w.alloc (.cells #[.slice q n c] 23)):=kR
theorem Bf(O:Ord N)(d:ByteArray)(i:d.size<=1000)(g:List UInt8)(q:Option Ww)(n c:Nat)(w:Ur)(l:PartOk w (.slice q n c) g){x:Nat}(hx:x=chL N d.data.toList [g]):
 ∃k f,Hid ((Vy 24 1 #[(0,.slice q n c)]).run prog w=.ok (sZ k 1 1) f)/\Hid (kZ w f)/\Hid (UH prog 60 #[.string d,sZ k 1 1] f (rZ f λe w'=>e=nv x)):=by
 have b:=aC w (.cells #[.slice q n c] 23);refine⟨_,_,Ue q n c w,b,?_⟩;rw[hx];refine CB O d _ 1 1 [g] _ (by omega) rfl (by decide) (UX ⟨_,_,rfl,λj f=>?_⟩);obtain rfl:j=0:=by simp at f;omega
 exact⟨_,(aE w [.slice q n c] 23).2.1 0 _ rfl,l.below b⟩
def rp0:Rp:=⟨o33,o33,o33,o33,0,0,0⟩
theorem Iz:rp0.Ok:=⟨rfl,rfl,rfl,rfl⟩
end
namespace RG
open Go Go.RowKit
variable {P:VD}{ops:Array Vk}{Q:Yq->Act->Ur->Prop}{w:Ur}{a0:Act}{L:Array Bool}{F:Flow}{m:Nat}
theorem SX:∀(k:Nat) (L:Array Bool) (a:Act) (w:Ur),wpAny P .any ops Q k L a w->anyS P ops Q (λ_ _=>True) k L a w
 | 0,_,_,_,h=>h
 | k+1,_,_,_,h=>⟨h.1,λi b=>wpOp_mono (λc w' d=>⟨trivial,SX k _ c w' d⟩) (h.2 i b)⟩
def yH(k:Array Vk)(n:Nat)(late:List Nat):Bool:=(VG n).all (λj=>late.contains j || nC k 5 n j) && (VG k.size).all (λi=>decide (i<=n) || depOn k i (i-1))
theorem yG{n i:Nat}{late:List Nat}(h:yH ops n late=true)(c:n<i)(b:i<ops.size):depOn ops i (i-1)=true:=by
 unfold yH at h;rw[UL]at h;have k:=Va.1 h.2 i (V0.2 b);rw[Xx,decide_eq_true_eq]at k;rcases k with k|k
 ·omega
 ·exact k
def lz(m n:Nat)(late:List Nat):Array Bool:=((VG m).map λi=>decide (i<n) && !late.contains i).toArray
structure LateP(P:VD)(F:Flow)(ops:Array Vk)(n:Nat)(late:List Nat)(j:Nat):Prop where
 lt:j<n
 o:∃o,ops[j]? = some o/\o.guard=none/\rC ops j=false/\(∀i oi,ops[i]? = some oi->i≠j->(i∈late\/n<=i)->(∀e∈oi.after,VP .any e=true->e.on≠j)->o.apart ops oi=true)/\(∃p op,n<=p/\ops[p]? = some op/\∃e∈op.after,VP .any e=true/\e.on=j)/\(∀e∈o.after,VP .any e=true->e.on<n/\e.on ∉ late)/\∃j' t,dB o j'=true/\aX ops j'=some t/\F.kill j'=[]/\∀v w,F.R j' v w->∃u,F.R j u w/\F.E j w w/\∀(a:Act) (W:Ur),a.eval (.tmp t)=v->(U5 a.eval o).run P W=.ok (.value u) W
theorem GM(F:Flow)(n:Nat)(late:List Nat)(k1:∀j∈late,LateP P F ops n late j)(hQ:∀c (a:Act) t v w,Q (.panic c) (a.put (some t) v) w->Q (.panic c) a w)(hs:XN ops=true)(hn:n<ops.size)(hc:yH ops n late=true)(hm:P.follows .mixedOrders=true)(R:RegF P Q F ops a0 n)(hA:Als P F ops n)(hB:∀b,F.B b w.drew)
 (hp:∀(V:Nat->Ut) (w':Ur),(∀i,i<n->F.kill i=[]->F.R i (V i) w')->(∀b,F.killB b=[]->F.B b w')->(∀i j,i<n->j<n->i≠j->rC ops i=true->rC ops j=true->(aX ops i).isSome=true->(aX ops j).isSome=true->V i≠V j)->wpList P ops Q (ops.toList.drop n) (bU V (ops.toList.take n) 0 a0) w'):(V6 id ops true).wp P Q a0 w:=by
 have k7:∀(i:Nat) (o:Vk),ops[i]? = some o->∀e∈o.after,VP .any e=true->e.on<i:=λi o ho=>(R.of ho).1
 have key:∀(g:Nat) (L:Array Bool) (a:Act) (w:Ur),unl L=g->(∀j,n<=j->on L j=false)->InvF F ops a0 L a w->Sep ops L a->wpAny P .any ops Q g L a w:=by
  intro g;induction g with
  | zero =>
   intro L a w hu k y hS;have:=kN hu n (by rw[y.size];omega);rw[k n (Uw _)]at this;cases this
  | succ g ih =>
   intro L a w hu k y hS;by_cases m:∀j,j<n->j ∉ late->on L j=true
   ·by_cases hy:∃j,j∈late/\on L j=false
    ·obtain⟨j,s,G⟩:=hy;obtain⟨k4,o,ho,hg,h5,k6,⟨p,op,kf,k9,ke⟩,h7,j',t,A,k8,kc,hw⟩:=k1 j s;have J:∀x∈F.kill j',on L x=false:=λx hx=>by rw[kc]at hx;cases hx
     obtain⟨V,C,X⟩:=y.all;have f:∀e∈o.after,VP .any e=true->on L e.on=true:=λe he Z=>m _ (h7 e he Z).1 (h7 e he Z).2
     obtain⟨e,he,Y⟩:=XQ.1 A;simp only[UL,beq_iff_eq]at Y;have r:on L j'=true:=by rw[<-Y.2];exact f e he Y.1
     obtain⟨u,k5,k2,k0⟩:=hw (V j') w (X j' r J);have ka:a.eval (.tmp t)=V j':=A7 (C j' t r k8);have U:=(UZ.1 ho).1;have h9:L.getD j true=false:=by
      unfold on at G;rw[UI,U0 (by rw[y.size];exact U)]at G⊢;exact G
     have h0:∀i,on L i=true->i<n:=λi q=>by
      rcases Ws i n with h|h
      ·exact h
      ·rw[k i h]at q;cases q
     have I:=y.nx R k4 h0 ho G f k2 k5;have N:∀i,on (L.setIfInBounds j true) i=true->i≠j->on L i=true:=λi q B=>by
      rw[eC (by rw[y.size];exact U)]at q;rcases Xx _ _ ▸ q with q|q
      ·exact q
      ·exact absurd (by simpa using q:j=i).symm B
     have kd:Sep ops (L.setIfInBounds j true) (a.put o.dst u):=λi i2 di dj q kb T E D z M=>by
      have h8:i≠j:=by rintro rfl;rw[h5]at E;cases E
      have h6:i2≠j:=by rintro rfl;rw[h5]at D;cases D
      have K:=hS i i2 di dj (N i q h8) (N i2 kb h6) T E D z M;have H:∀i di O,i≠j->aX ops i=some di->o.dst=some O->O≠di:=λi di O B q hk e=>by
       subst e;exact B ((R.of ho).2 O hk |>.2 i q)
      cases hd:o.dst with
      | none=>exact K
      | some O=>rw[kC (H i di O h8 z hd),kC (H i2 dj O h6 M hd)];exact K
     have hz:=ih (L.setIfInBounds j true) (a.put o.dst u) w (by have:=lN h9;omega) (λi q=>by
      rw[eC (by rw[y.size];exact U),k i q];simp only[yAe,beq_eq_false_iff_ne];omega) I kd
     refine anyS.any _ _ _ _ (anyS.first (S:=λ_ _=>True) (p:=p) ho k9 ke (by omega) (λ_ _ _=>trivial) (Region.noSelect_spec hs) (λc a w h=>by
      cases hd:o.dst with
      | none=>rw[hd]at h;exact h
      | some t=>rw[hd]at h;exact hQ c a t u w h) g L a w ?_ (λi oi K B hq k3=>k6 i oi K B (by
      rcases Ws i n with h|h
      ·by_cases ht:i∈late
       ·exact U4 ht
       ·have O:=m i h ht;have H:=(UZ.1 K).1;unfold on at O;rw[UI,U0 (by rw[y.size];exact H)]at O hq;exact Bool.noConfusion (O.symm.trans hq)
      ·exact UX h) k3) (mem_ready.2 ⟨h9,o,ho,?_⟩) (U4 ⟨bI hg _,λW _=>k0 a W ka⟩) ⟨#[],by simp,yCn⟩ trivial (SX g _ _ _ hz))
     ·have:=k p kf;unfold on at this;exact this
     ·intro e he Z;exact f e he Z
    have r:∀j,j<n->on L j=true:=λj s=>by
     by_cases G:j∈late
     ·cases h:on L j with
      | true=>rfl
      | false=>exact absurd ⟨j,G,h⟩ hy
     ·exact m j s G
    have B:∀j,on L j=true↔j<n:=λj=>⟨λs=>(by
     rcases Ws j n with h|h
     ·exact h
     ·rw[k j h]at s;cases s),r j⟩
    obtain⟨V,C,X⟩:=y.all;have U:=y.act R oM B C;have J:∀l:List Nat,l=[]->∀x∈l,on L x=false:=λl Y x hx=>by rw[Y]at hx;cases hx
    have M:=hp V w (λj s hk=>X j (r j s) (J _ hk)) (λb Z=>y.base b (J _ Z)) (λi j q s T E D z A e=>by
     obtain⟨di,z⟩:=Vr.1 z;obtain⟨dj,A⟩:=Vr.1 A;refine hS i j di dj (r i q) (r j s) T E D z A ?_;rw[C i di (r i q) z,C j dj (r j s) A,e])
    rw[<-U]at M;exact zC (λi N O=>yG hc N O) k7 _ L a w n (Uw _) oM y.size B hu M
   ·refine⟨λB=>?_,λi q=>?_⟩
    ·exact absurd (λj s _=>y.full R B j oM) m
    ·obtain⟨N,o,ho,f⟩:=mem_ready.1 q;have H:=(UZ.1 ho).1;have K:on L i=false:=by
      unfold on;rw[UI]at N⊢;cases hh:L[i]? with
      | none=>rfl
      | some b=>rw[hh]at N;exact N
     have z:i<n:=by
      rcases Ws i n with h|h
      ·exact h
      ·exfalso;rcases Ws n i with O|O
       ·have:=gC ho f (yG hc O H);rw[k (i-1) oM]at this;cases this
       ·obtain rfl:i=n:=oM;refine m λj s G=>?_
        unfold yH at hc;rw[UL]at hc;have r:=Va.1 hc.1 j (V0.2 s);rw[Xx]at r;replace r:=r.resolve_left (by simpa using G);unfold nC at r;rw[Xx]at r;rcases r with r|r
        ·exact gC ho f r
        ·obtain⟨x,hx,A⟩:=List.any_eq_true.1 r;rw[UL]at A;exact wQ y 4 x j (by have:=V0.1 hx;omega) (gC ho f A.1) A.2
     refine wpOp_mono (λr w' I=>ih _ r w' (by have:=lN N;omega) (λj s=>?_) I.1 I.2) (stepS R hA z (λj s=>?_) ho K f y hS)
     ·rw[eC (by rw[y.size];exact H),k j s];simp only[yAe,beq_eq_false_iff_ne];omega
     ·rcases Ws j n with h|h
      ·exact h
      ·rw[k j h]at s;cases s
 have k:∀i,on (UJ ops.size false) i=false:=λi=>by
  unfold on;rw[UI,Array.getElem?_replicate];by_cases h:i<ops.size
  ·rw[yCl h];rfl
  ·rw[yCm h];rfl
 refine wp_region_any hm (key _ _ a0 _ ?_ (λj _=>k j) ⟨Array.size_replicate,(λi o _ h=>by rw[k]at h;cases h),rfl,rfl,λ_ _=>rfl,⟨λ_=>undef,λi d h=>(by rw[k]at h;cases h),λi h=>(by rw[k]at h;cases h)⟩,λb _=>hB b⟩ (λi j di dj q=>by rw[k]at q;cases q));unfold unl;rw[Y5,List.countP_replicate];simp
theorem late1{G:Gw}{n:Nat}{late:List Nat}(p m:Nat)(t:WF)(b:∀v w,G.R m v w->∃u,G.R j u w/\∀o,ops[j]? = some o->∀W,(dA [t] o,(U5 (evo λ_=>v) o).run P W)=(true,.ok (.value u) W))
 (z:(decide (j<n) && decide (n<=p) && waits ops p j && Region.free .any ops (lz ops.size n late) j && !rC ops j && (match ops[j]? with|some o=>o.guard.isNone && o.after.all (λe=>!VP .any e || (decide (e.on<n) && !late.contains e.on)) && dB o m|none=>false))=true:=by kernel_rfl) (hd:aX ops m=some t:=by kernel_rfl):LateP P G.flow ops n late j:=by
 simp only[UL,decide_eq_true_eq,yAV]at z;obtain⟨⟨⟨⟨⟨H,C⟩,f⟩,E⟩,F⟩,l⟩:=z;cases ho:ops[j]? with
 | none=>rw[ho]at l;cases l
 | some o =>
  rw[ho]at l;simp only[UL]at l;obtain⟨⟨J,B⟩,I⟩:=l;have D:o.guard=none:=by simpa using J
  refine⟨H,o,ho,D,F,λi A d r k x=>Region.free_spec ho E i A d r ?_ x,?_,λe c g=>?_,m,t,I,hd,rfl,λv w hv=>?_⟩
  ·have q:=(UZ.1 d).1;unfold lz;rw[UI,Vg,Vz,List.getElem?_range q,Option.map_some,Option.getD_some];rcases k with k|k
   ·rw[List.contains_iff_mem.2 k,yBB,Bool.and_false]
   ·rw[decide_eq_false (by omega),Bool.false_and]
  ·unfold waits at f;cases q:ops[p]? with
   | none=>rw[q]at f;cases f
   | some op =>
    rw[q]at f;obtain⟨e,c,g⟩:=XQ.1 f;simp only[UL,beq_iff_eq]at g;exact⟨p,op,C,q,e,c,g.1,g.2⟩
  ·have:=Array.all_eq_true'.1 B e c;rw[g,yBB,yAe,UL,decide_eq_true_eq,yAV]at this;exact⟨this.1,by simpa using this.2⟩
  ·obtain⟨u,q,s⟩:=b v w hv;refine⟨u,q,UR _ _,λa W c=>?_⟩;have h:=s o ho W;rw[V8.injEq]at h;rw[iU (a:=a) (λ_=>v) [t] h.1 (λK y=>by rw[WO.1 y];exact c)];exact h.2
theorem Gw.late(G:Gw)(n:Nat)(l:List Nat)(b:∀j∈l,LateP P G.flow ops n l j)(f:Als P G.flow ops n)(k:(decide (n<ops.size) && yH ops n l && XN ops)=true)(d:P.follows .mixedOrders=true)(r:Be ops a0.tmps.size=true)(h:iK P Q G.flow ops a0 0 (ops.toList.take n))(q:G.B w.drew)
 (s:∀(V:Nat->Ut) (w':Ur),(∀i,i<n->G.R i (V i) w')->G.B w'->(∀i j,i<n->j<n->i≠j->rC ops i=true->rC ops j=true->(aX ops i).isSome=true->(aX ops j).isSome=true->V i≠V j)->wpList P ops Q (ops.toList.drop n) (bU V (ops.toList.take n) 0 a0) w') (o:∀c (a:Act) t v w,Q (.panic c) (a.put (some t) v) w->Q (.panic c) a w:=by exact λ_ _ _ _ _ h=>h):(V6 id ops true).wp P Q a0 w:=by
 rw[UL,UL,decide_eq_true_eq]at k;exact GM G.flow n l b o k.2 k.1.1 k.1.2 d (Gw.reg r h) f (λ_=>q) λV w' g e m=>s V w' (λi p=>g i p rfl) (e 0 rfl) m
end RG
section
open Go Go.RowKit
section
variable {P:VD}{ops:Array Vk}{rest:List Vk}{op:Vk}{a a':Act}{w w':Ur}{Q:Yq->Act->Ur->Prop}{d:Option WF}{x v:Ut}{t:WF}{T:U8}{b off:Nat}{cs:List Ut}
theorem PW.begin{l:List Vk}(h:wpList P l.toArray Q l a w):(V6 id l.toArray false).wp P Q a w:=wp_region_list h
theorem PW.dn(h:Q .normal a w):wpList P ops Q [] a w:=h
theorem PW.va(x:Ut)(h:wpList P ops Q rest a' w)(hd:op.dst=d:=by rfl)(b:op.guard=none:=by rfl)(hv:(U5 a.eval op).run P w=.ok (.value x) w:=by kernel_rfl)(k:a.put d x=a':=by(simp only[UN,Us,Uu,Uv])<;>rfl):wpList P ops Q (op :: rest) a w:=by
 subst k hd;exact Xi b λK c=>by
  unfold VT;rw[hv];exact c _ _ h
theorem PW.mv(h:wpList P ops Q rest a' w)(hd:op.dst=d:=by rfl)(c:op.guard=none:=by rfl)(k:op.op=.move (.tmp t):=by rfl)(hx:a.eval (.tmp t)=x:=by(conv=>lhs;whnf)<;>rfl)(b:a.put d x=a':=by(simp only[UN,Us,Uu,Uv])<;>rfl):wpList P ops Q (op :: rest) a w:=
 PW.va x h hd c (by unfold U5;rw[k];dsimp only;rw[hx];rfl) b
theorem PW.ns{I:Sem Ut}(hx:I.run P w=.ok x w')(h:wpList P ops Q rest a' w')(hd:op.dst=d:=by rfl)(c:op.guard=none:=by rfl)(b:U5 a.eval op=I >>= λv=>pure (Xr v):=by kernel_rfl)(k:a.put d x=a':=by(simp only[UN,Us,Uu,Uv])<;>rfl):wpList P ops Q (op :: rest) a w:=by
 subst k hd;exact Xi c λK e=>by
  unfold VT;rw[b,UV,hx];exact e _ _ h
theorem PW.ca{R:Ut->Ur->Prop}(k:UH P f args w (Ret R))(h:∀e w',R e w'->wpList P ops Q rest (a.put d e) w')(hd:op.dst=d:=by rfl)(b:op.guard=none:=by rfl)(hx:(U5 a.eval op).run P w=.ok (.enter f args) w:=by kernel_rfl):wpList P ops Q (op :: rest) a w:=by
 subst hd;exact Xi b λK c=>by
  unfold VT;rw[hx,Xb];refine k.mono ?_;rintro e w' ⟨v,rfl,hR⟩;exact c _ _ (h v w' hR)
theorem PW.gi(c:UH P f args w (rZ w λe w'=>e=x))(h:∀w',kZ w w'->wpList P ops Q rest a' w')(hd:op.dst=d:=by rfl)(g:op.guard=none:=by rfl)(hx:(U5 a.eval op).run P w=.ok (.enter f args) w:=by kernel_rfl)(k:a.put d x=a':=by(simp only[UN,Us,Uu,Uv])<;>rfl):wpList P ops Q (op :: rest) a w:=
 PW.ca c (λe w' hR=>by
  obtain⟨b,rfl⟩:=hR;subst k;exact h w' b) hd g hx
theorem PW.al{g:Nat}{b:Obj}(f:Hid (w.heap.size=g))(j:Hid (w.alloc b=w'))(h:wpList P ops Q rest a' w')(hd:op.dst=d:=by rfl)(k:op.guard=none:=by rfl)(e:(U5 a.eval op).run P w=.ok (.value (jZ w.heap.size)) (w.alloc b):=by kernel_rfl)(c:a.put d (jZ g)=a':=by(simp only[UN,Us,Uu,Uv])<;>rfl):wpList P ops Q (op :: rest) a w:=by
 subst c hd;exact Xi k λK i=>by
  unfold VT;rw[e,f.out,j.out];exact i _ _ h
theorem PW.st(g:Hid (w.setCells b off cs=w'))(hv:Hid (.agg cs.toArray=v))(th:w.there b off cs.length)(d:(P.info? T).map (·.size)=some cs.length)(e:cs.toArray.all (·.oneCell')=true)(h:wpList P ops Q rest a' w')(hd:op.dst=none:=by rfl)(k:op.guard=none:=by rfl){y:XI}(ho:op.op=.store T (.tmp t) y:=by rfl)(hx:a.eval (.tmp t)=oZ b off:=by rfl)(f:a.eval y=v:=by rfl)(c:a.put none undef=a':=by(simp only[UN])<;>rfl):wpList P ops Q (op :: rest) a w:=
 U2 k T (.tmp t) y ho b off cs.toArray hx (f.trans hv.out.symm) th d e (by rw[show cs.toArray.toList=cs from rfl,g.out,hd,c];exact h)
theorem PW.ro(i:w.rangeAt b off cs)(hv:Hid (.agg cs.toArray=v))(g:(P.underlying T).map (·.isRow)=some true)(e:(P.info? T).map (·.size)=some cs.length)(h:wpList P ops Q rest a' w)(hd:op.dst=d:=by rfl)(k:op.guard=none:=by rfl)(ho:op.op=.load T (.tmp t):=by rfl)(hx:a.eval (.tmp t)=oZ b off:=by rfl)(c:a.put d v=a':=by(simp only[UN,Us,Uu,Uv])<;>rfl):wpList P ops Q (op :: rest) a w:=by
 obtain⟨j,f,l⟩:=Uy.1 g;exact U6 k T (.tmp t) ho b off hx cs j i f l e (by rw[hv.out,hd,c];exact h)
theorem PW.ce(f:w.cell? ⟨b,off,none⟩=some x)(e:(P.underlying T).map (·.isRow)=some false)(h:wpList P ops Q rest a' w)(hd:op.dst=d:=by rfl)(k:op.guard=none:=by rfl)(ho:op.op=.load T (.tmp t):=by rfl)(hx:a.eval (.tmp t)=oZ b off:=by rfl)(c:a.put d x=a':=by(simp only[UN,Us,Uu,Uv])<;>rfl):wpList P ops Q (op :: rest) a w:=
 PW.va x h hd k (by
  unfold U5;rw[ho];dsimp only;rw[hx,UV,fD f e];rfl) c
end
end
section
open Go.RowKit Go.Sort Go.Deep SPA
variable {P:Nat}[NeZero P]{N:Nat}[NeZero N]
omit [NeZero N] in
theorem SLq.fin{Q:Nat->Prop}{W:Ur}{v:Ut}{n:Nat}{a:Nat->Nat}(b:Nat->Fin N)(h:SLq Q W v n a)(e:∀i,i<n->a i=(b i).val):SLq Q W v n (λi=>(b i).val):=h.congr e
omit [NeZero N] in
theorem Ln.fin{Q:Nat->Prop}{W:Ur}{v:Ut}{n:Nat}{a b:Nat->Nat}(c d:Nat->Fin N)(h:Ln Q W v n a b)(e:∀i,i<n->a i=(c i).val)(e':∀i,i<n->b i=(d i).val):Ln Q W v n (λi=>(c i).val) (λi=>(d i).val):=by
 obtain⟨x,y,k,g,f⟩:=h.ex;exact⟨x,y,k,g.congr e,f.congr e'⟩
theorem J1(k:1<N)(v i:Nat):v/2^i%2=(btF N v i).val:=by
 exact(US (Ux (V7 _ (by decide)) k)).symm
theorem P8(k:1<N)(v i:Nat):sMi N (v/2^i%2) 1=(btF N v i-1).val:=by
 rw[I8,<-J1 k,show(1:Fin N).val=1 from US k]
theorem RR(C:Fld P)(O:Ord N)(b:∀r:EC.Pt P,On r->mul N r=none)(q:IsP N)(n:Nat)(o:0<n)(D:n<=64)(a:Fin N)(l m:Nat->Fin N)(Gb X:Bs)(hG:wr (gG P)=Gb)(t:X=wP ((aD C b).ad ((aD C b).ac a (gPG C)) ((aD C b).ad ((aD C b).dt l (gPt C ⟨#[108,101,102,116]⟩) n) ((aD C b).dt m (gPt C ⟨#[114,105,103,104,116]⟩) n)))):
 ∃d lb,(∀W:Ur,UH prog 64 #[pvl Gb,nv a.val] W (rZ W λe w'=>Sm W.heap.size w' e d)) /\
  (∀(Q:Nat->Prop) (W:Ur) (v va c:Ut),GRq Q W v n (gGT P) (hGT P) (uGT P)->SLq Q W va n (λi=>(l i).val)->SLq Q W c n (λi=>(m i).val)->UH prog 66 #[v,va,c] W (rZ W λe w'=>Sm W.heap.size w' e lb)) /\
  (∀(W:Ur) (s z:Ut),Sm 0 W s d->Sm 0 W z lb->UH prog 65 #[s,z] W (rZ W λe w'=>Sm W.heap.size w' e (d++lb))) /\
  (∀(W:Ur) (v:Ut),Sm 0 W v (d++lb)->UH prog 67 #[v] W (rZ W λe w'=>e=pvl X)):=by
 have d:=vE C q.1 n;have g:=nK C q.1 n;have p:=sN o (by decide:0<1) (by omega) d g (mR C q.1) yBX (by show 1<=16;decide);have x:Gb.size=33:=by rw[<-hG];exact aT _
 have t0:Tl N [(a.val,Gb)] ((aD C b).ac a (gPG C)):=by rw[<-hG];exact Tl.pt C b a (gPG C)
 have t1:=(d.cmb C b l).1.app C b (g.cmb C b m).1;have w:(dH N (λi=>(l i).val) (gGT P) n++dH N (λi=>(m i).val) (hGT P) n).length=n+n:=by rw[UA,(d.cmb C b l).2,(g.cmb C b m).2,Xk]
 have t2:=t0.app C b t1;refine⟨_,_,λW=>?_,λ_ W v va c j f y=>xJ O n 1 (gGT P) (hGT P) (uGT P) p _ _ (λi _=>(l i).isLt) (λi _=>(m i).isLt) v va c W j f y,λW s z j f=>cO 0 s z _ _ (by simp) (by simp) (by omega) t0.ok.sz t1.ok.sz W (UX j) (UX f),λW v hv=>?_⟩
 ·refine(kU Gb x a.val W).mono ?_;rintro e W' ⟨u,rfl,B,k,rfl,p,hR⟩;exact⟨_,rfl,B,Sm.one hR p rfl⟩
 ·rw[t];exact t2.point C O b (by simp) (by rw[UA,w];simp;omega) hv
theorem lV(k:1<N)(x:Fin N)(i:Nat):pwN N x.val i=(pwF x i).val:=(EG k x i).symm
theorem OH(k:IsP N)(b:2<N)(R:Rv N)(i:Nat):sPl N (sTi N R.z.val (pwN N R.y.val i)) (sTi N (sTi N R.z.val R.z.val) (pwN N 2 i))=(R.sh i).val:=by
 show _=(R.z*pwF R.y i+R.z*R.z*pwF (ofF N 2) i).val;rw[mA,fL,fL,fL,<-lV k.1,<-lV k.1,show(ofF N 2).val=2 from US b]
def pLn(Q:Nat->Prop)(n:Nat)(a b:Nat->Nat):S1:=⟨λv w=>Ln Q w v n a b,λ_ _ _ k h=>h.keep (Kq.of_below k)⟩
omit [NeZero N] in
theorem xR(O:Ord N)(a b:Fin N)(W:Ur):UH prog 79 #[nv a.val,nv b.val] W (rZ W λe w'=>e=nv (a*b).val):=by
 rw[fL];exact iI O a.val b.val a.isLt b.isLt W
omit [NeZero N] in
theorem PL(O:Ord N)(a b:Fin N)(W:Ur):UH prog 80 #[nv a.val,nv b.val] W (rZ W λe w'=>e=nv (a+b).val):=by
 rw[mA];exact mY O a.val b.val a.isLt b.isLt W
theorem mP(O:Ord N)(k:IsP N){y:Fin N}{L:Bs}(h:y=kM N L):chS N L=y.val:=by
 rw[h];exact FG k.1 L (uU O _)
def Rf(b:Nat)(e f:Ut)(L:Bs):S1:=⟨λv w=>∃r,v=.tuple #[lgV r,e,f]/\b<=r/\r<w.heap.size/\Holds encB w r 0 L,λ_ _ _ c ⟨r,d,g,k,i⟩=>⟨r,d,g,Ux k c.size,Holds.below i c k⟩⟩
def Re(b:Nat)(L:Bs):S1:=⟨λv w=>∃r,v=lgV r/\b<=r/\r<w.heap.size/\Holds encB w r 0 L,λ_ _ _ c ⟨r,d,e,k,f⟩=>⟨r,d,e,Ux k c.size,Holds.below f c k⟩⟩
theorem DJ{W:Ur}{r k:Nat}{L:Bs}{u:Ut}{cs:List Ut}(h:Holds encB W r 0 L)(d:0<L.size)(f:Row W k (u :: cs))(e:∀b:UInt8,encB b≠u):r≠k:=by
 rintro rfl;have c:=(h 0 d).1;have g:=f.2.1 0 u rfl;rw[g]at c;exact e _ (Option.some.inj c).symm
theorem hG{α:Sort _}{p:Prop}(x:α)(h:∀y,Hid (x=y)->p):p:=h x rfl
structure RgA(B0 t:Nat)(p:Rp)(Lb Rb:Nat->Bs)(Ab Bb:Bs)(e:Ut)(W:Ur):Prop where
 ex:∃a b c d u m s vL vR vA vB,e=.agg #[r33 a,r33 b,r33 c,r33 d,r32 u,r32 m,r32 s,vL,vR,vA,vB]/\RgT (λ_=>True) W p a b c d u m s/\TlL (λ_=>True) B0 t W vL Lb/\TlL (λ_=>True) B0 t W vR Rb/\ElQ (λ_=>True) 32 W vA Ab/\ElQ (λ_=>True) 32 W vB Bb
omit [NeZero N] [NeZero P] in
theorem RgA.set{i t k:Nat}{p:Rp}{v Rb:Nat->Bs}{r o:Bs}{e:Ut}{W:Ur}{vs:List Ut}(h:RgA i t p v Rb r o e W)(w:Row W k (.slice none 0 0 :: vs))(O:k<i):RgA i t p v Rb r o e (W.setCells k 0 us):=by
 obtain⟨a,b,c,d,u,m,s,G,M,F,I,K,f,z,hR,E,L⟩:=h.ex;have kq:Kq (·≠k) W (W.setCells k 0 us):=Kq.set λg l=>l
 have el:∀ {m:Nat}{x:Ut}{b:Bs},0<m->ElQ (λ_=>True) m W x b->ElQ (λ_=>True) m (W.setCells k 0 us) x b:=λy hx=>((hx.off y w).keep kq).mono2 λ_ _ _=>trivial
 have q:∀ {n:Ut}{B:Nat->Bs},TlL (λ_=>True) i t W n B->TlL (λ_=>True) i t (W.setCells k 0 us) n B:=λhx=>by
  obtain⟨xs,A,H⟩:=hx.ex;refine⟨xs,bZ A λg l=>aH k us 0 W g (by have:=(hx.lt l).1;omega),λj J=>?_⟩;obtain⟨x,C,D⟩:=H j J;exact⟨x,C,el (by decide) D⟩
 exact⟨a,b,c,d,u,m,s,G,M,F,I,K,⟨el (by decide) f.a,el (by decide) f.b,el (by decide) f.c,el (by decide) f.d,el (by decide) f.e,el (by decide) f.f,el (by decide) f.g⟩,q z,q hR,el (by decide) E,el (by decide) L⟩
theorem ML(C:Fld P)(k:∀r:EC.Pt P,On r->mul N r=none)(c:IsP N)(R:Rv N)(n:Nat):Gd N n 1 (oQ N R.y.val (hGT P)) (R.hh (aD C k) (gPt C ⟨#[114,105,103,104,116]⟩)):=by
 have g:=nK C c.1 n;refine⟨λi b=>?_,λi b=>by unfold oQ;rw[UQ];exact g.len i b⟩;have h:=(g.tl i b).tm C k (pwF (ivF R.y) i);rw[<-lV c.1]at h;exact h
theorem Mb(C:Fld P)(O:Ord N)(k:∀r:EC.Pt P,On r->mul N r=none)(U:IsP N)(t:Nat)(ht:t<=6)(R:Rv N)(hn:R.n=2^t)(hv:R.v<18446744073709551616)(hN:18446744073709551616<=N)(sd:List UInt8)(sq:Option Ww)(sn sc:Nat)(V A S C1 C2 L3 L6 L8:Bs)(Y:RvL C k R V A S C1 C2 L3 L6 L8)(hS:RvS R sd)(q:Md.Ps Bs (Fin N) (OnP P))(iw:q.s=bB L8)(o2:q.a=R.a)(n6:q.b=R.b)(o8:q.g=gPt C ⟨#[108,101,102,116]⟩)(mt:q.h=R.hh (aD C k) (gPt C ⟨#[114,105,103,104,116]⟩))(u:OnP P)(hu:u=(aD C k).ac R.w (uPt C))(Lb Rb:Nat->Bs)(nu:∀j,Lb j=wP ((aD C k).pLi (chF N) ivF u t q j))(nw:∀j,Rb j=wP ((aD C k).pTi (chF N) ivF u t q j))(Ab Bb:Bs)(ny:Ab=bx (((aD C k).pst (chF N) ivF u t q t).a 0).val)(md:Bb=bx (((aD C k).pst (chF N) ivF u t q t).b 0).val)(pz:Rp)(L:Hid (⟨A,S,C1,C2,R.tau.val,R.mu.val,R.t.val⟩=pz))(w:Ur)(hp:PartOk w (.slice sq sn sc) sd):
 UH prog 18 #[uZ (R.v:Int),nv R.k.val,iZ (R.n:Int),.slice sq sn sc] w (rZ w λe w'=>∃f,w.heap.size<=f/\RgA f t pz Lb Rb Ab Bb e w'):=by
 obtain⟨vr,hy⟩:=hE (nv R.k.val);obtain⟨va,hm⟩:=hE (nv R.al.val);obtain⟨vh,hq⟩:=hE (nv R.rho.val);obtain⟨v1,ha⟩:=hE (nv R.t1.val);obtain⟨v2,hw⟩:=hE (nv R.t2.val);obtain⟨k5,ju⟩:=hE (w.heap.size);obtain⟨w1,jy⟩:=hE (w.alloc (.cells (wn R.k.val).toArray 49));obtain⟨k8,lu⟩:=hE (w1.heap.size);obtain⟨w2,l3⟩:=hE (w1.alloc (.cells z11.toArray 28));have K2:=mk1 (((Mp.start w).new ju jy).new lu l3);have B1:Hid ((Ve 49 vr).run prog w=.ok (jZ k5) w1):=by rw[<-hy.out,<-jy.out,<-ju.out];exact boxS _ w
 have n:R.n<=64:=by rw[hn];exact UC (VA (by decide) ht) (by decide)
 have hz:Hid (∀W,kZ w W->PartOk W (.slice sq sn sc) sd):=λW hb=>hp.below hb
 obtain⟨g3,w3,je,jc,gm⟩:=Bf O ⟨#[97,108,112,104,97]⟩ (by decide) sd sq sn sc w2 (hz w2 K2.bl) hS.al;rw[hm.out]at gm;rw[hy.out];go_enter func18,ntmps18;refine Uz ?_;refine PW.begin ?_;refine PW.ns B1.out ?_;refine PW.al lu l3 ?_;refine PW.dn ?_;refine Uz ?_;refine PW.begin ?_;refine PW.mv ?_;refine PW.ns je.out ?_;refine PW.gi gm.out λw4 jr=>?_
 have K4:=mk1 ((K2.grow jc.out).grow jr);obtain⟨g5,w5,j6,l7,gt⟩:=Bf O ⟨#[114,104,111]⟩ (by decide) sd sq sn sc w4 (hz w4 K4.bl) hS.rho;rw[hq.out]at gt;clear gm jr jc je K2;refine PW.mv ?_;refine PW.ns j6.out ?_;refine PW.gi gt.out λw6 j9=>?_
 have K6:=mk1 ((K4.grow l7.out).grow j9);clear gt l7 j9 j6 K4;refine hG (w6.heap.size) λk9 l6=>?_
 refine hG (w6.alloc (.cells (RG.z 4).toArray 49)) λw7 lc=>?_
 refine hG w7.heap.size λm6 dw=>?_
 refine hG (w7.alloc (.cells (RG.z 4).toArray 49)) λw8 jn=>?_
 refine hG (w8.setCells k9 0 (wn R.al.val)) λw9 ly=>?_
 refine hG (w9.setCells m6 0 (wn R.rho.val)) λjd eh=>?_
 have K8:=mk1 ((K6.new l6 lc).new dw jn);have K9:=mk1 (K8.put 2 ly);have gk:=mk1 (K9.put 3 eh);refine PW.al l6 lc ?_;refine PW.al dw jn ?_;refine PW.st ly hm (K8.th 2) i40 (aM _) ?_;refine PW.st eh hq (K9.th 3) i40 (aM _) ?_;clear K6 K8 K9;refine PW.dn ?_;obtain⟨p9,oo,dp,eo,b4⟩:=Bf O ⟨#[116,97,117,49]⟩ (by decide) sd sq sn sc jd (hz jd gk.bl) hS.t1;rw[ha.out]at b4;refine Uz ?_;refine PW.begin ?_;refine PW.mv ?_;refine PW.ns dp.out ?_;refine PW.gi b4.out λll d8=>?_
 have i6:=mk1 ((gk.grow eo.out).grow d8);obtain⟨ov,ot,ck,d9,kt⟩:=Bf O ⟨#[116,97,117,50]⟩ (by decide) sd sq sn sc ll (hz ll i6.bl) hS.t2;rw[hw.out]at kt;clear b4 eo d8 dp gk;refine PW.mv ?_;refine PW.ns ck.out ?_;refine PW.gi kt.out λiz dx=>?_
 have li:=mk1 ((i6.grow d9.out).grow dx);clear kt d9 dx ck i6;refine hG (iz.heap.size) λm8 d6=>?_
 refine hG (iz.alloc (.cells (RG.z 4).toArray 49)) λlx cq=>?_
 refine hG lx.heap.size λmo ek=>?_
 refine hG (lx.alloc (.cells (RG.z 4).toArray 49)) λo9 cy=>?_
 refine hG (o9.setCells m8 0 (wn R.t1.val)) λm9 cj=>?_
 refine hG (m9.setCells mo 0 (wn R.t2.val)) λjj f3=>?_
 have fa:=mk1 ((li.new d6 cq).new ek cy);have ff:=mk1 (fa.put 4 cj);have hr:=mk1 (ff.put 5 f3);refine PW.al d6 cq ?_;refine PW.al ek cy ?_;refine PW.st cj ha (fa.th 4) i40 (aM _) ?_;refine PW.st f3 hw (ff.th 5) i40 (aM _) ?_;clear li fa ff;refine PW.dn ?_;have ip:=mk1 (RI O R.v hv R.n n sd sq sn sc jj (hz jj hr.bl));refine Uz ?_;refine PW.begin ?_;refine PW.mv ?_;refine PW.mv ?_;refine PW.mv ?_;refine PW.ca ip.out ?_;rintro e jq ⟨f0,xl,yl,rfl,ij,jo⟩;clear ip;obtain⟨o5,np,rfl,g8,fm⟩:=(ij.fin R.l R.s (λi _=>J1 U.1 R.v i) (λi _=>(hS.s i).symm)).ex;obtain⟨ma,nm,rfl,gj,g6⟩:=(jo.fin R.m R.q (λi _=>P8 U.1 R.v i) (λi _=>(hS.q i).symm)).ex;clear ij jo;have lg:=mk1 ((((hr.gets f0 (pqS o5 R.n λi=>(R.l i).val) g8).has (pqS np R.n λi=>(R.s i).val) (fm.mono λg hg=>hr.nk g hg)).has (pqS ma R.n λi=>(R.m i).val) (gj.mono λg hg=>hr.nk g hg)).has (pqS nm R.n λi=>(R.q i).val) (g6.mono λg hg=>hr.nk g hg));obtain⟨kp,ky,b3,T⟩:=(bY g8).2;obtain⟨kz,kg,kk,B⟩:=(bY fm).2;obtain⟨kv,kj,kl,e3⟩:=(bY gj).2;obtain⟨ku,k1,kn,e4⟩:=(bY g6).2;subst T B e3 e4;clear g8 fm gj g6 f0 hr;simp only[UN,Us,Uu,Uv];refine PW.mv ?_;refine PW.va (.agg #[.slice (some ⟨kp,ky,none⟩) R.n b3,.slice (some ⟨kz,kg,none⟩) R.n kk]) ?_;refine PW.va (.agg #[.slice (some ⟨kv,kj,none⟩) R.n kl,.slice (some ⟨ku,k1,none⟩) R.n kn]) ?_;refine hG (jq.heap.size) λba d5=>?_
 refine hG (jq.alloc (.cells [.slice none 0 0,.slice none 0 0].toArray 126)) λl2 et=>?_
 refine hG l2.heap.size λbf er=>?_
 refine hG (l2.alloc (.cells [.slice none 0 0,.slice none 0 0].toArray 126)) λni du=>?_
 refine hG (ni.setCells ba 0 [.slice (some ⟨kp,ky,none⟩) R.n b3,.slice (some ⟨kz,kg,none⟩) R.n kk]) λmb e7=>?_
 refine hG (mb.setCells bf 0 [.slice (some ⟨kv,kj,none⟩) R.n kl,.slice (some ⟨ku,k1,none⟩) R.n kn]) λo3 ee=>?_
 have gw:=mk1 ((lg.new d5 et).new er du);have fh:=mk1 (gw.put 6 e7);have ih:=mk1 (fh.put 7 ee);refine PW.al d5 et ?_;refine PW.al er du ?_;refine PW.st e7 (Hid.mk' rfl) (gw.th 6) iLi kR ?_;refine PW.st ee (Hid.mk' rfl) (fh.th 7) iLi kR ?_;clear lg gw fh;refine PW.dn ?_;have HG:=mk1 (xQ (P:=P) C R.n (by omega) o3);refine Uz ?_;refine PW.begin ?_;refine PW.mv ?_;refine PW.ca HG.out ?_;rintro e nl ⟨ep,hG⟩;clear HG;obtain⟨q1,q2,q3,rfl,j8,jh,iy⟩:=hG.ex;obtain⟨ga,oa,ca,T⟩:∃g o c,q1=.slice (some ⟨g,o,none⟩) R.n c:=by obtain⟨g,o,c,h,-⟩:=j8;exact⟨g,o,c,h⟩
 obtain⟨gb,ob,cb,B⟩:∃g o c,q2=.slice (some ⟨g,o,none⟩) R.n c:=by obtain⟨g,o,c,h,-⟩:=jh;exact⟨g,o,c,h⟩
 obtain⟨gc,mc,cc,e3⟩:∃g m c,q3=sZ g m c:=by obtain⟨g,c,h,-⟩:=iy;exact⟨g,_,c,h⟩
 subst T B e3;have jk:=mk1 (ih.gets ep (pqG _ R.n (gGT P) (hGT P) (uGT P)) hG);clear hG j8 jh iy ep ih;simp only[UN,Us,Uu,Uv];have kb:=mk1 (NQ (P:=P) C nl);refine hG (wr (gG P)) λGb bl=>?_
 have gz:Gb.size=33:=by rw[<-bl.out];exact aT _
 refine hG (pvl Gb) λvG hs=>?_
 rw[bl.out,hs.out]at kb;refine PW.gi kb.out λle cf=>?_
 have im:=mk1 (jk.grow cf);clear kb jk cf;refine hG (le.heap.size) λmg cg=>?_
 refine hG (le.alloc (.cells [.slice none 0 0,.slice none 0 0,.slice none 0 0].toArray 133)) λl5 en=>?_
 refine hG l5.heap.size λnq dl=>?_
 refine hG (l5.alloc (.cells z33.toArray 103)) λng eu=>?_
 refine hG (ng.setCells mg 0 [.slice (some ⟨ga,oa,none⟩) R.n ca,.slice (some ⟨gb,ob,none⟩) R.n cb,sZ gc mc cc]) λo7 d7=>?_
 refine hG (o7.setCells nq 0 (aA Gb)) λl0 c9=>?_
 have i8:=mk1 ((im.new cg en).new dl eu);have fu:=mk1 (i8.put 8 d7);have lG:(aA Gb).length=z33.length:=aB gz;have jb:=mk1 (fu.put 9 c9 rfl lG);refine PW.al cg en ?_;refine PW.al dl eu ?_;refine PW.st d7 (Hid.mk' rfl) (i8.th 8) iGr kR ?_;refine PW.st c9 hs (fu.th 9 rfl lG) (by rw[aB gz];exact iCP) (bW _) ?_;clear im i8 fu;refine PW.dn ?_;refine hG (l0.heap.size) λl co=>?_
 refine hG (l0.alloc (.cells rp0.l.toArray 137)) λog ec=>?_
 have fb:=mk1 (jb.new co ec);clear jb;refine Uz ?_;refine PW.begin ?_;refine PW.al co ec ?_;refine PW.dn ?_;have i4:0<R.n:=by rw[hn];exact XK (by decide)
 have sA:A.size=33:=by rw[Y.eA];exact aT _
 have sS:S.size=33:=by rw[Y.eS];exact aT _
 have iG:(prog.info? 103).map (·.size)=some (aA Gb).length:=by rw[aB gz];exact iCP
 obtain⟨la,lb,cT,cL,cP,cX⟩:=RR C O k U R.n i4 n R.al R.l R.m Gb A bl.out Y.eA;have Z:=mk4 cT cL cP cX;clear cT cL cP cX;rw[hm.out,hs.out]at Z;refine hG (pvl A) λvA hvA=>?_
 rw[hvA.out]at Z;refine Uz ?_;refine AW.beg 12 12 (Iv.mp w _ _ true) fb.out.drew ?_;refine AW.ro 0 (λW h=>(h.at_ 9).2.1) hs uCP iG ?_;refine AW.ro 1 (λW h=>(h.at_ 2).2.1) hm u40 i40 ?_;refine AW.ro 3 (cs:=[.slice (some ⟨ga,oa,none⟩) R.n ca,.slice (some ⟨gb,ob,none⟩) R.n cb,sZ gc mc cc]) (λW h=>(h.at_ 8).2.1) (Hid.mk' rfl) uGr iGr ?_;refine AW.va 4 (jZ ba) ?_;refine AW.ce 5 uSl (λW h=>(h.at_ 6).2.1 0 _ rfl) ?_;refine AW.va 6 (jZ bf) ?_;refine AW.ce 7 uSl (λW h=>(h.at_ 7).2.1 0 _ rfl) ?_;refine AW.ca 2 (λ_=>Z.1 _) (λe w' h=>h.1) ?_;rintro e ou ⟨dd,f7⟩;simp only[UN,Us,Uu,Uv];refine AW.ca 8 (λh=>Z.2.1 _ _ _ _ _ (h.get 4) (h.get 0) (h.get 2)) (λe w' h=>h.1) ?_;rintro B ox ⟨b2,f8⟩;simp only[UN,Us,Uu,Uv];refine AW.ca 9 (λh=>Z.2.2.1 _ _ _ ((f7.q.keep (Kq.of_below b2)).sm) f8.q.sm) (λe w' h=>h.1) ?_;rintro e3 oq ⟨f4,ds⟩;simp only[UN,Us,Uu,Uv];refine AW.gi 10 (λh=>Z.2.2.2 _ _ ds.q.sm) λmw dy=>?_
 have ge:=mk1 ((((fb.drew.grow dd).grow b2).grow f4).grow dy);clear dd b2 f4 dy f7 f8 ds fb Z;refine AW.nx 11 (jZ l) ?_;refine hG (mw.setCells l 0 (aA A)) λpa k4=>?_
 have bj:=mk1 (Rp.Tx Iz (ge.at_ 10) sA);refine hG ({ rp0 with a:=A }:Rp) λp1 gn=>?_
 rw[gn.out]at bj;have fy:=mk1 (ge.upd 10 k4 bj.2.1);refine AW.fi (us:=aA A) hvA (bW A) (by rw[aB sA];exact iCP) (λ_=>⟨bj.1,?_⟩);rw[k4.out];clear ge k4;obtain⟨la,lb,cT,cL,cP,cX⟩:=RR C O k U R.n i4 n R.rho R.s R.q Gb S bl.out Y.eS;have Z:=mk4 cT cL cP cX;clear cT cL cP cX;rw[hq.out,hs.out]at Z;refine hG (pvl S) λvS jl=>?_
 rw[jl.out]at Z;refine Uz ?_;refine AW.beg 12 12 (Iv.mp w _ _ true) fy.out.drew ?_;refine AW.ro 0 (λW h=>(h.at_ 9).2.1) hs uCP iG ?_;refine AW.ro 1 (λW h=>(h.at_ 3).2.1) hq u40 i40 ?_;refine AW.ro 3 (cs:=[.slice (some ⟨ga,oa,none⟩) R.n ca,.slice (some ⟨gb,ob,none⟩) R.n cb,sZ gc mc cc]) (λW h=>(h.at_ 8).2.1) (Hid.mk' rfl) uGr iGr ?_;refine AW.va 4 (oZ ba 1) ?_;refine AW.ce 5 uSl (λW h=>(h.at_ 6).2.1 1 _ rfl) ?_;refine AW.va 6 (oZ bf 1) ?_;refine AW.ce 7 uSl (λW h=>(h.at_ 7).2.1 1 _ rfl) ?_;refine AW.ca 2 (λ_=>Z.1 _) (λe w' h=>h.1) ?_;rintro e os ⟨e0,es⟩;simp only[UN,Us,Uu,Uv];refine AW.ca 8 (λh=>Z.2.1 _ _ _ _ _ (h.get 4) (h.get 1) (h.get 3)) (λe w' h=>h.1) ?_;rintro B oj ⟨kh,f5⟩;simp only[UN,Us,Uu,Uv];refine AW.ca 9 (λh=>Z.2.2.1 _ _ _ ((es.q.keep (Kq.of_below kh)).sm) f5.q.sm) (λe w' h=>h.1) ?_;rintro e3 om ⟨d4,cn⟩;simp only[UN,Us,Uu,Uv];refine AW.gi 10 (λh=>Z.2.2.2 _ _ cn.q.sm) λo0 de=>?_
 have fd:=mk1 ((((fy.drew.grow e0).grow kh).grow d4).grow de);clear e0 kh d4 de es f5 cn fy Z;refine AW.nx 11 (oZ l 33) ?_;refine hG (o0.setCells l 33 (aA S)) λkw kf=>?_
 have hk:=mk1 (Rp.sets bj.2.2 (fd.at_ 10) sS);refine hG ({ p1 with s:=S }:Rp) λp2 fs=>?_
 rw[fs.out]at hk;have bn:=mk1 (fd.upd 10 kf hk.2.1);refine AW.fi (us:=aA S) jl (bW S) (by rw[aB sS];exact iCP) (λ_=>⟨hk.1,?_⟩);rw[kf.out];clear fd kf;refine hG (bB (bB L3)) λL5 gp=>?_
 have s5:L5.size=32:=by rw[<-gp.out];exact bE _ _
 have sV:V.size=33:=by rw[Y.eV];exact aT _
 refine hG (U3 p2.l.toArray) λvp j5=>?_
 refine hG (pvl V) λvV lo=>?_
 refine hG (nv R.v) λvn ig=>?_
 refine hG (nv R.y.val) λvy M=>?_
 refine hG (nv R.z.val) λvz h5=>?_
 have ct:Hid (∀W,UH prog 68 #[vp,vV,iZ (R.n:Int)] W (rZ W λe w'=>∃r,e=.tuple #[lgV r,vy,vz]/\W.heap.size<=r/\Holds encB w' r 0 L5)):=λW=>by
  have h:=NY O p2 hk.2.2 V sV R.n (by omega) W;rw[show bgL V R.n p2.a p2.s=L3 by rw[<-fs.out,<-gn.out];exact Y.l3.symm,mP O U Y.y,mP O U Y.z,gp.out,j5.out,lo.out,M.out,h5.out]at h;exact h
 have ef:Hid (∀W,UH prog 69 #[vn,vr] W (rZ W λe w'=>e=vV)):=λW=>by
  have h:=oL C O (a:=R.v) (b:=R.k.val) (by omega) R.k.isLt W;have e:(ofF N R.v).val=R.v:=US (by omega);have B:=yB C k (ofF N R.v) R.k;rw[e]at B;rw[B,show wP ((aD C k).cm (hPV C) (gPG C) (ofF N R.v) R.k)=V from Y.eV.symm,ig.out,hy.out,lo.out]at h;exact h
 have ji:Hid (∀W,UH prog 70 #[uZ (R.v:Int)] W (rZ W λe w'=>e=vn)):=λW=>by
  rw[<-ig.out];exact zW R.v hv W
 refine hG kw.heap.size λb hb=>?_
 have ke:∀ {W},kZ kw W->b<=W.heap.size:=λh=>hb.out ▸ h.size
 refine Uz ?_;refine(gwL [pE vp,pE (uZ (R.v:Int)),pE vn,pE vr,pE vV,pE (iZ (R.n:Int)),Rf b vy vz L5,Rf b vy vz L5,Re b L5,pE vy,pE vz,RG.pN b [.pointer none],RG.pN b (RG.z 4),RG.pN b (RG.z 4)] (λW=>kZ kw W) (λW W' hb h=>h.trans (hb.mono h.size))).late 14 [9,10] (λj hj=>by
  rcases VX.1 hj with rfl|hj
  ·exact late1 15 7 75 λv W ⟨r,e,_⟩=>⟨vy,rfl,λo ho W'=>by
    cases ho
    rw[e];kernel_rfl⟩
  ·obtain rfl:=WO.1 hj;exact late1 16 7 75 λv W ⟨r,e,_⟩=>⟨vz,rfl,λo ho W'=>by
    cases ho
    rw[e];kernel_rfl⟩) (Ke [11,12,13] ⟨al1 [.pointer none] 145 zS,al1 (RG.z 4) 49 zS,al1 (RG.z 4) 49 zS,yCn⟩) kR kR kR ⟨
  gLo (cs:=p2.l) 17 (λW f=>((bn.grow f).at_ 10).2.1) uRd (by rw[Rp.len hk.2.2];exact iRd) (hR:=λ_=>j5.out),
  gO 0 (uZ (R.v:Int)),
  oW 1 77 70 (λx=>#[x]) (λx W T f=>by
   obtain rfl:x=uZ (R.v:Int):=T;exact ji W),
  gLo (cs:=wn R.k.val) 5 (λW f=>((bn.grow f).at_ 0).2.1) u40 i40 (hR:=λ_=>hy.out),
  eD 2 78 3 79 69 (λx y=>#[x,y]) (λx u W T B f=>by
   obtain rfl:x=vn:=T;obtain rfl:u=vr:=B;exact ef W),
  gO 2 (iZ (R.n:Int)),
  rG 0 76 4 80 5 81 68 (λx y z=>#[x,y,z]) (λx u z W T B e3 f=>by
   obtain rfl:x=vp:=T;obtain rfl:u=vV:=B;obtain rfl:z=iZ (R.n:Int):=e3;refine(ct W).mono ?_;rintro e W' ⟨I,rfl,E,r,J,p,D⟩;exact⟨_,rfl,E,r,J,UC (ke f) p,Holds.lt D (by rw[s5];decide),D⟩),
  DT 6 82 id (λx W h=>h),
  bN λa W hp=>by
   obtain⟨r,e,E,J,p⟩:=hp.n 7 75 kR kR;exact⟨[(75,.tuple #[lgV r,vy,vz])],lgV r,W,⟨e,yCn⟩,kR,UR _ _,r,rfl,E,J,p⟩,
  bN λa W hp=>by
   obtain⟨r,e,E,J,p⟩:=hp.n 7 75 kR kR;exact⟨[(75,.tuple #[lgV r,vy,vz])],vy,W,⟨e,yCn⟩,kR,UR _ _,rfl⟩,
  bN λa W hp=>by
   obtain⟨r,e,E,J,p⟩:=hp.n 7 75 kR kR;exact⟨[(75,.tuple #[lgV r,vy,vz])],vz,W,⟨e,yCn⟩,kR,UR _ _,rfl⟩,
  xP [.pointer none] 145 (λW W' h f=>⟨_,rfl,ke f,h⟩),
  xP (RG.z 4) 49 (λW W' h f=>⟨_,rfl,ke f,h⟩),
  xP (RG.z 4) 49 (λW W' h f=>⟨_,rfl,ke f,h⟩),yCn⟩ ⟨rfl,rfl,rfl,Uw _,λ_ _=>rfl⟩ ?_
 intro X ms hR f hD;obtain⟨r,e8,lr,jz,Hr⟩:=hR 8 dC;have e9:X 9=vy:=hR 9 dC;have jp:X 10=vz:=hR 10 dC;obtain⟨k6,bp,gh,fp⟩:=hR 11 dC;obtain⟨ka,c4,fg,fz⟩:=hR 12 dC;obtain⟨k7,b7,g0,gg⟩:=hR 13 dC;have d1:=hD 11 12 dC dC dC kR kR kR kR;have d2:=hD 11 13 dC dC dC kR kR kR kR;have d3:=hD 12 13 dC dC dC kR kR kR kR;rw[bp,c4]at d1;rw[bp,b7]at d2;rw[c4,b7]at d3;have n1:k6≠ka:=λe=>d1 (by rw[e])
 have n2:k6≠k7:=λe=>d2 (by rw[e])
 have n3:ka≠k7:=λe=>d3 (by rw[e])
 have m1:r≠k6:=DJ Hr (by rw[s5];decide) fp (λb e=>by cases e);have m2:r≠ka:=DJ Hr (by rw[s5];decide) fz (λb e=>by cases e);have m3:r≠k7:=DJ Hr (by rw[s5];decide) gg (λb e=>by cases e);rw[<-hb.out]at lr gh fg g0;have gs:=mk1 (bn.adds f [(k6,[.pointer none]),(ka,RG.z 4),(k7,RG.z 4),(r,aA L5)] (by simp;omega) (λx hx=>by
  simp only[VX,UY,or_false]at hx;rcases hx with rfl|rfl|rfl|rfl
  ·exact⟨gh,fp⟩
  ·exact⟨fg,fz⟩
  ·exact⟨g0,gg⟩
  ·exact⟨lr,pW Hr jz⟩))
 dsimp only[bU,VK,Xn,Xo];simp only[UN,Us,Uu,Uv];rw[e8,e9,jp,bp,c4,b7];clear hR hD d1 d2 d3 n1 n2 n3 m1 m2 m3 gh fg g0 lr jz Hr fp fz gg f e8 e9 jp bp c4 b7 bn ct ef ji;refine hG (ms.setCells k6 0 [jZ r]) λnf ex=>?_
 refine hG (nf.setCells ka 0 (wn R.y.val)) λnh d0=>?_
 refine hG (nh.setCells k7 0 (wn R.z.val)) λmz eb=>?_
 have fj:=mk1 (gs.put 11 ex);have i2:=mk1 (fj.put 12 d0);have km:=mk1 (i2.put 13 eb);refine PW.st ex (Hid.mk' rfl) (gs.th 11) iLg kR ?_;refine PW.st d0 M (fj.th 12) i40 (aM _) ?_;refine PW.st eb h5 (i2.th 13) i40 (aM _) ?_;clear gs fj i2 ke hb;refine PW.dn ?_;have J:2<N:=by omega
 have gr:=mk1 (EE O J R.y.val R.z.val R.y.isLt R.z.isLt R.n (by omega) mz);rw[M.out,h5.out]at gr;refine Uz ?_;refine PW.begin ?_;refine PW.ro (km.at_ 12).2.1 M u40 i40 ?_;refine PW.ro (km.at_ 13).2.1 h5 u40 i40 ?_;refine PW.mv ?_;refine PW.ca gr.out ?_;rintro e ik ⟨dh,ls,rs,rfl,be,bd⟩;clear gr;replace be:=be.fin (λ_=>-R.z) (λi _=>(I4 R.z).symm);replace bd:=bd.fin R.sh (λi _=>OH U J R i);have D:=mk1 ((km.gets dh (pqS ls R.n λ_=>(-R.z).val) be).has (pqS rs R.n λi=>(R.sh i).val) (bd.mono λg hg=>km.nk g hg));clear be bd dh km;simp only[UN,Us,Uu,Uv];refine PW.mv ?_;refine PW.va ls ?_;refine PW.va rs ?_;refine PW.va ls ?_;refine PW.va rs ?_;refine PW.dn ?_;obtain⟨Q,F⟩:=D.out.q;refine Uz ?_;refine(gwL [pE (.agg #[.slice (some ⟨kp,ky,none⟩) R.n b3,.slice (some ⟨kz,kg,none⟩) R.n kk]),pE ls,pLn Q R.n (λi=>(R.a0 i).val) (λi=>(R.s i).val),pE (.agg #[.slice (some ⟨kv,kj,none⟩) R.n kl,.slice (some ⟨ku,k1,none⟩) R.n kn]),pE vy,pE (iZ (R.n:Int)),RG.pS Q R.n (pwN N R.y.val),pLn Q R.n (λi=>sTi N (R.m i).val (pwN N R.y.val i)) (λi=>sTi N (R.q i).val (pwN N R.y.val i)),pE rs,pLn Q R.n (λi=>(R.b0 i).val) (λi=>(R.b1 i).val)] (λW=>kZ ik W) (λW W' hb h=>h.trans (hb.mono h.size))).tail2 10 kR kR kR ⟨
  gLo (cs:=[.slice (some ⟨kp,ky,none⟩) R.n b3,.slice (some ⟨kz,kg,none⟩) R.n kk]) 13 (λW f=>((D.grow f).at_ 6).2.1) uLi iLi,
  gO 21 ls,
  eD 0 93 1 94 72 (λx y=>#[x,y]) (λx u W T B f=>by
   obtain rfl:x=.agg #[.slice (some ⟨kp,ky,none⟩) R.n b3,.slice (some ⟨kz,kg,none⟩) R.n kk]:=T;obtain rfl:u=ls:=B;have K:=D.grow f;refine(NE O n (λi _=>(R.l i).isLt) (λi _=>(-R.z).isLt) (⟨_,_,rfl,K.uP F 0,K.uP F 1⟩:Ln Q W _ R.n _ _) (K.uP F 5)).mono ?_;rintro e W' ⟨I,rfl,E,J⟩;exact⟨_,rfl,E,(J.mono λg hg=>hg.elim id (K.nkq F g)).fin R.a0 R.s (λi _=>(mA (R.l i) (-R.z)).symm) (λ_ _=>rfl)⟩),
  gLo (cs:=[.slice (some ⟨kv,kj,none⟩) R.n kl,.slice (some ⟨ku,k1,none⟩) R.n kn]) 14 (λW f=>((D.grow f).at_ 7).2.1) uLi iLi,
  gLo (cs:=wn R.y.val) 19 (λW f=>((D.grow f).at_ 12).2.1) u40 i40 (hR:=λ_=>M.out),
  gO 2 (iZ (R.n:Int)),
  eD 4 97 5 98 74 (λx y=>#[x,y]) (λx u W T B f=>by
   obtain rfl:x=vy:=T;obtain rfl:u=iZ (R.n:Int):=B;rw[<-M.out];exact(Nz O R.y.val R.y.isLt R.n (by omega) W).mono λe W' ⟨v,E,J,p⟩=>⟨v,E,J,p.mono λg hg=>(D.grow f).nkq F g hg⟩),
  eD 3 96 6 99 73 (λx y=>#[x,y]) (λx u W T B f=>by
   obtain rfl:x=.agg #[.slice (some ⟨kv,kj,none⟩) R.n kl,.slice (some ⟨ku,k1,none⟩) R.n kn]:=T;have K:=D.grow f;refine(RD O n (λi _=>(R.m i).isLt) (λi _=>(R.q i).isLt) (λi _=>wT O _ i) (⟨_,_,rfl,K.uP F 2,K.uP F 3⟩:Ln Q W _ R.n _ _) B).mono ?_;rintro e W' ⟨I,rfl,E,J⟩;exact⟨_,rfl,E,J.mono λg hg=>K.nkq F g hg⟩),
  gO 22 rs,
  eD 7 100 8 101 72 (λx y=>#[x,y]) (λx u W T B f=>by
   obtain rfl:u=rs:=B;have K:=D.grow f;refine(NE O n (λi _=>V7 _ O.pos) (λi _=>(R.sh i).isLt) T (K.uP F 6)).mono ?_;rintro e W' ⟨I,rfl,E,J⟩;refine⟨_,rfl,E,(J.mono λg hg=>hg.elim id (K.nkq F g)).fin R.b0 R.b1 (λi _=>?_) (λi _=>?_)⟩
   ·show _=(R.m i*pwF R.y i+R.sh i).val;rw[mA,fL,<-lV U.1];rfl
   ·show _=(R.q i*pwF R.y i).val;rw[fL,<-lV U.1]),yCn⟩ ⟨rfl,rfl,rfl,Uw _,λ_ _=>rfl⟩ ?_
 intro X o6 hR f;obtain⟨mn,nz,B,H,G⟩:=(hR 2 dC).ex;obtain⟨nj,n5,e9,i7,i5⟩:=(hR 9 dC).ex;have fl:=mk1 (((((D.grow f).MI F (pqS mn R.n λi=>(R.a0 i).val) H).MI F (pqS nz R.n λi=>(R.s i).val) G).MI F (pqS nj R.n λi=>(R.b0 i).val) i7).MI F (pqS n5 R.n λi=>(R.b1 i).val) i5);obtain⟨bi,c8,b9,e3⟩:=(bY H).2;obtain⟨bq,c7,bh,e4⟩:=(bY G).2;obtain⟨c3,bb,c5,e5⟩:=(bY i7).2;obtain⟨bt,c6,bc,e6⟩:=(bY i5).2;subst e3 e4 e5 e6;dsimp only[bU,VK,Xn,Xo];simp only[UN,Us,Uu,Uv];rw[B,e9];clear hR f H G i7 i5 B e9 D F;refine hG (o6.setCells ba 0 [.slice (some ⟨bi,c8,none⟩) R.n b9,.slice (some ⟨bq,c7,none⟩) R.n bh]) λn8 cv=>?_
 refine hG (n8.setCells bf 0 [.slice (some ⟨c3,bb,none⟩) R.n c5,.slice (some ⟨bt,c6,none⟩) R.n bc]) λb5 dk=>?_
 have g1:=mk1 (fl.put 6 cv);have K:=mk1 (g1.put 7 dk);refine PW.st cv (Hid.mk' rfl) (fl.th 6) iLi kR ?_;refine PW.st dk (Hid.mk' rfl) (g1.th 7) iLi kR ?_;clear fl g1;refine PW.dn ?_;refine hG (nv R.c1.val) λia h8=>?_
 refine hG (nv R.c2.val) λfq h7=>?_
 have jv:Hid (UH prog 75 #[.agg #[.slice (some ⟨bi,c8,none⟩) R.n b9,.slice (some ⟨bq,c7,none⟩) R.n bh],.agg #[.slice (some ⟨c3,bb,none⟩) R.n c5,.slice (some ⟨bt,c6,none⟩) R.n bc]] b5 (rZ b5 λe w'=>e=.tuple #[ia,fq])):=by
  have h:=RH O n (λi _=>⟨(R.a0 i).isLt,(R.s i).isLt,(R.b0 i).isLt,(R.b1 i).isLt⟩) (⟨_,_,rfl,K.get 7,K.get 8⟩:Ln _ b5 _ R.n _ _) (⟨_,_,rfl,K.get 9,K.get 10⟩:Ln _ b5 _ R.n _ _);rw[kE,kE,kE,<-mA,show Md.pr R.a0 R.b1 R.n+Md.pr R.s R.b0 R.n=R.c1 from rfl,show Md.pr R.s R.b1 R.n=R.c2 from rfl,h8.out,h7.out]at h;exact h
 refine Uz ?_;refine PW.begin ?_;refine PW.ro (cs:=[.slice (some ⟨bi,c8,none⟩) R.n b9,.slice (some ⟨bq,c7,none⟩) R.n bh]) (K.at_ 6).2.1 (Hid.mk' rfl) uLi iLi ?_;refine PW.ro (cs:=[.slice (some ⟨c3,bb,none⟩) R.n c5,.slice (some ⟨bt,c6,none⟩) R.n bc]) (K.at_ 7).2.1 (Hid.mk' rfl) uLi iLi ?_;refine PW.gi jv.out λlw f6=>?_
 have lm:=mk1 (K.grow f6);clear jv f6 K;refine PW.mv ?_;refine PW.va ia ?_;refine PW.va fq ?_;refine hG (lw.heap.size) λmj ej=>?_
 refine hG (lw.alloc (.cells (RG.z 4).toArray 49)) λl1 f1=>?_
 refine hG l1.heap.size λnn cd=>?_
 refine hG (l1.alloc (.cells (RG.z 4).toArray 49)) λo4 ea=>?_
 refine hG (o4.setCells mj 0 (wn R.c1.val)) λmh da=>?_
 refine hG (mh.setCells nn 0 (wn R.c2.val)) λoh ew=>?_
 have ic:=mk1 ((lm.new ej f1).new cd ea);have i3:=mk1 (ic.put 15 da);have g9:=mk1 (i3.put 16 ew);refine PW.al ej f1 ?_;refine PW.al cd ea ?_;refine PW.st da h8 (ic.th 15) i40 (aM _) ?_;refine PW.st ew h7 (i3.th 16) i40 (aM _) ?_;clear lm ic i3;refine PW.dn ?_;have sC:C1.size=33:=by rw[Y.e1];exact aT _
 have sD:C2.size=33:=by rw[Y.e2];exact aT _
 refine hG (pvl C1) λvC j2=>?_
 refine hG (pvl C2) λvD ja=>?_
 have l4:Hid (∀W,UH prog 69 #[ia,v1] W (rZ W λe w'=>e=vC)):=λW=>by
  have h:=oL C O R.c1.isLt R.t1.isLt W;rw[yB C k R.c1 R.t1,show wP ((aD C k).cm (hPV C) (gPG C) R.c1 R.t1)=C1 from Y.e1.symm,h8.out,ha.out,j2.out]at h;exact h
 have jm:Hid (∀W,UH prog 69 #[fq,v2] W (rZ W λe w'=>e=vD)):=λW=>by
  have h:=oL C O R.c2.isLt R.t2.isLt W;rw[yB C k R.c2 R.t2,show wP ((aD C k).cm (hPV C) (gPG C) R.c2 R.t2)=C2 from Y.e2.symm,h7.out,hw.out,ja.out]at h;exact h
 refine Uz ?_;refine AW.beg 9 9 (Iv.mx w _ _ 10 l false) (g9.out.drew.wk 10) ?_;refine AW.ro 0 (λW ⟨_,h⟩=>(h.at_ 15).2.1) h8 u40 i40 ?_;refine AW.ro 1 (λW ⟨_,h⟩=>(h.at_ 4).2.1) ha u40 i40 ?_;refine AW.ro 3 (λW ⟨_,h⟩=>(h.at_ 16).2.1) h7 u40 i40 ?_;refine AW.ro 4 (λW ⟨_,h⟩=>(h.at_ 5).2.1) hw u40 i40 ?_;refine AW.gi 2 (λ_=>l4 _) λoz cp=>?_
 refine AW.va 6 (oZ l 66) ?_;refine AW.gi 5 (λ_=>jm _) λme cz=>?_
 have i9:=mk1 ((g9.drew.grow cp).grow cz);clear cp cz g9 l4 jm;refine hG (me.setCells l 66 (aA C1)) λmy dq=>?_
 refine hG (my.setCells l 99 (aA C2)) λib em=>?_
 have ki:=mk1 (Rp.Tw hk.2.2 (i9.at_ 10) sC);refine hG ({ p2 with c:=C1 }:Rp) λp3 fn=>?_
 rw[fn.out]at ki;have bu:=mk1 (i9.upd 10 dq ki.2.1);have h0:=mk1 (Rp.Tv ki.2.2 (bu.at_ 10) sD);refine hG ({ p3 with d:=C2 }:Rp) λp4 fx=>?_
 rw[fx.out]at h0;have hl:=mk1 (bu.upd 10 em h0.2.1);refine AW.ss 7 j2 (bW C1) (by rw[aB sC];exact iCP) dq (λ_=>⟨ki.1,bu.out.wk 10⟩) ?_;refine AW.nx 8 (oZ l 99) ?_;refine AW.ss 9 ja (bW C2) (by rw[aB sD];exact iCP) em (λ_=>⟨h0.1,hl.out.wk 10⟩) ?_;refine AW.dn λ_=>?_
 clear i9 bu ki;refine hG (bB L6) λL7 fk=>?_
 have s7:L7.size=32:=by rw[<-fk.out];exact bE _ _
 refine hG (nv R.x.val) λvx p=>?_
 refine hG (U3 p4.l.toArray) λvq ie=>?_
 refine hG (lgV r) λvl h9=>?_
 have js:Hid (UH prog 76 #[vq,vl] ib (Ret λe w'=>SP.Only r 0 32 ib w'/\Holds encB w' r 0 L7/\e=vx)):=by
  have h:=ND O p4 h0.2.2 r L5 ib (hl.log 14) s5;rw[<-gp.out,show mdL (bB (bB L3)) p4.c p4.d=L6 by rw[<-fx.out,<-fn.out];exact Y.l6.symm,mP O U Y.x,fk.out,ie.out,h9.out,p.out]at h;exact h
 refine Uz ?_;refine PW.begin ?_;refine PW.ro (cs:=p4.l) (hl.at_ 10).2.1 ie uRd (by rw[Rp.len h0.2.2];exact iRd) ?_;refine PW.ro (hl.at_ 11).2.1 h9 uLg iLg ?_;refine PW.ca js.out ?_;rintro e lq ⟨hO,hH,he⟩;obtain rfl:=he.symm;have iq:=mk1 (hl.say 14 hO hH);clear js hO hH hl;simp only[UN,Us,Uu,Uv];refine hG (lq.heap.size) λn0 cu=>?_
 refine hG (lq.alloc (.cells (RG.z 4).toArray 49)) λm7 ed=>?_
 refine hG (m7.setCells n0 0 (wn R.x.val)) λpb ei=>?_
 have ft:=mk1 (iq.new cu ed);have g4:=mk1 (ft.put 17 ei);refine PW.al cu ed ?_;refine PW.st ei p (ft.th 17) i40 (aM _) ?_;clear iq ft;refine PW.dn ?_;have gy:Hid (∀(a b c:Nat->Fin N) (v:Ut) (Q:Nat->Prop) (W:Ur),(∀i,c i=a i+b i*R.x)->Ln Q W v R.n (λi=>(a i).val) (λi=>(b i).val)->UH prog 77 #[v,vx] W (rZ W λe w'=>SLq (W.heap.size<=·) w' e R.n (λi=>(c i).val))):=λa b c v Q W hc h=>by
  have h:=RL O n (λi _=>(a i).isLt) (λi _=>(b i).isLt) R.x.isLt h;rw[p.out]at h;refine h.mono ?_;rintro e w' ⟨I,rfl,E,J⟩;exact⟨_,rfl,E,J.fin c λi _=>by rw[hc,mA,fL]⟩
 refine Uz ?_;refine AW.beg 7 7 (Iv.mp w _ _ false) g4.out.drew ?_;refine AW.ro 0 (cs:=[.slice (some ⟨bi,c8,none⟩) R.n b9,.slice (some ⟨bq,c7,none⟩) R.n bh]) (λW h=>(h.at_ 6).2.1) (Hid.mk' rfl) uLi iLi ?_;refine AW.ro 1 (λW h=>(h.at_ 17).2.1) p u40 i40 ?_;refine AW.ro 3 (cs:=[.slice (some ⟨c3,bb,none⟩) R.n c5,.slice (some ⟨bt,c6,none⟩) R.n bc]) (λW h=>(h.at_ 7).2.1) (Hid.mk' rfl) uLi iLi ?_;refine AW.ro 4 (λW h=>(h.at_ 17).2.1) p u40 i40 ?_;refine AW.ca 2 (λh=>gy R.a0 R.s R.a _ _ _ (λ_=>rfl) (⟨_,_,rfl,h.get 7,h.get 8⟩:Ln _ _ _ R.n _ _)) (λe w' h=>h.1) ?_;rintro av ow ⟨df,iu⟩;simp only[UN,Us,Uu,Uv];refine AW.ca 5 (λh=>gy R.b0 R.b1 R.b _ _ _ (λ_=>rfl) (⟨_,_,rfl,h.get 9,h.get 10⟩:Ln _ _ _ R.n _ _)) (λe w' h=>h.1) ?_;rintro bv bk ⟨eg,il⟩;simp only[UN,Us,Uu,Uv];have ir:=mk1 (g4.drew.gets df (pqS av R.n λi=>(R.a i).val) iu);have c0:=mk1 (ir.gets eg (pqS bv R.n λi=>(R.b i).val) il);clear gy df eg iu il g4 ir;refine AW.nx 6 av ?_;refine AW.nx 7 bv ?_;refine AW.dn λ_=>?_
 refine hG (nv R.t.val) λvt jg=>?_
 have lv:Hid (UH prog 78 #[av,bv] bk (rZ bk λe w'=>e=vt)):=by
  have h:=Bc O R.n (by omega) (λi=>(R.a i).val) (λi=>(R.b i).val) (λi _=>(R.a i).isLt) (λi _=>(R.b i).isLt) av bv bk (c0.get 11) (c0.get 12);rw[kE,show Md.pr R.a R.b R.n=R.t from rfl,jg.out]at h;exact h
 refine Uz ?_;refine PW.begin ?_;refine PW.mv ?_;refine PW.mv ?_;refine PW.gi lv.out λo1 cx=>?_
 have fr:=mk1 (c0.grow cx);clear lv cx c0;refine PW.va (oZ l 140) ?_;refine hG (o1.setCells l 140 (wn R.t.val)) λol ey=>?_
 have kc:=mk1 (Rp.Tt h0.2.2 (fr.at_ 10) R.t.val);refine hG ({ p4 with t:=R.t.val }:Rp) λp5 jf=>?_
 rw[jf.out]at kc;have fe:=mk1 (fr.upd 10 ey kc.2.1);refine PW.st ey jg kc.1 i40 (aM _) ?_;clear fr h0;refine PW.dn ?_;refine hG (nv (R.t1*R.x).val) λu1 nc=>?_
 refine hG (nv (R.t2*R.x).val) λu2 mq=>?_
 refine hG (nv (R.t2*R.x*R.x).val) λu3 m0=>?_
 refine hG (nv (R.t1*R.x+R.t2*R.x*R.x).val) λu4 oe=>?_
 refine hG (nv (R.z*R.z).val) λu5 m4=>?_
 refine hG (nv (R.z*R.z*R.k).val) λu6 n4=>?_
 refine hG (nv R.tau.val) λu7 lh=>?_
 have HT:=mk7 (λW=>xR O R.t1 R.x W) (λW=>xR O R.t2 R.x W) (λW=>xR O (R.t2*R.x) R.x W) (λW=>PL O (R.t1*R.x) (R.t2*R.x*R.x) W) (λW=>xR O R.z R.z W) (λW=>xR O (R.z*R.z) R.k W) (λW=>PL O (R.t1*R.x+R.t2*R.x*R.x) (R.z*R.z*R.k) W);rw[show R.t1*R.x+R.t2*R.x*R.x+R.z*R.z*R.k=R.tau from rfl,nc.out,mq.out,m0.out,oe.out,m4.out,n4.out,lh.out,ha.out,hw.out,p.out,h5.out,hy.out]at HT;refine Uz ?_;refine AW.beg 16 16 (Iv.mp w _ _ true) fe.out.drew ?_;refine AW.ro 0 (λW h=>(h.at_ 4).2.1) ha u40 i40 ?_;refine AW.ro 1 (λW h=>(h.at_ 17).2.1) p u40 i40 ?_;refine AW.ro 3 (λW h=>(h.at_ 5).2.1) hw u40 i40 ?_;refine AW.ro 4 (λW h=>(h.at_ 17).2.1) p u40 i40 ?_;refine AW.ro 6 (λW h=>(h.at_ 17).2.1) p u40 i40 ?_;refine AW.ro 9 (λW h=>(h.at_ 13).2.1) h5 u40 i40 ?_;refine AW.ro 10 (λW h=>(h.at_ 13).2.1) h5 u40 i40 ?_;refine AW.ro 12 (λW h=>(h.at_ 0).2.1) hy u40 i40 ?_;refine AW.gi 2 (λ_=>HT.1 _) λx1 H=>?_
 refine AW.gi 5 (λ_=>HT.2.1 _) λx2 G=>?_
 refine AW.gi 7 (λ_=>HT.2.2.1 _) λx3 j7=>?_
 refine AW.gi 8 (λ_=>HT.2.2.2.1 _) λx4 ii=>?_
 refine AW.gi 11 (λ_=>HT.2.2.2.2.1 _) λx5 j4=>?_
 refine AW.gi 13 (λ_=>HT.2.2.2.2.2.1 _) λx6 l9=>?_
 refine AW.gi 14 (λ_=>HT.2.2.2.2.2.2 _) λmm jt=>?_
 have gv:=mk1 (((((((fe.drew.grow H).grow G).grow j7).grow ii).grow j4).grow l9).grow jt);clear H G j7 ii j4 l9 jt fe HT;refine AW.nx 15 (oZ l 132) ?_;refine hG (mm.setCells l 132 (wn R.tau.val)) λoy kd=>?_
 have kx:=mk1 (Rp.Ts kc.2.2 (gv.at_ 10) R.tau.val);refine hG ({ p5 with u:=R.tau.val }:Rp) λp6 io=>?_
 rw[io.out]at kx;have gq:=mk1 (gv.upd 10 kd kx.2.1);refine AW.fi (us:=wn R.tau.val) lh (aM _) i40 (λ_=>⟨kx.1,?_⟩);rw[kd.out];clear gv kc kd;refine hG (nv (R.rho*R.x).val) λu8 n9=>?_
 refine hG (nv R.mu.val) λu9 ix=>?_
 have HT:=mk2 (λW=>xR O R.rho R.x W) (λW=>PL O R.al (R.rho*R.x) W);rw[show R.al+R.rho*R.x=R.mu from rfl,n9.out,ix.out,hm.out,hq.out,p.out]at HT;refine Uz ?_;refine AW.beg 6 6 (Iv.mp w _ _ true) gq.out.drew ?_;refine AW.ro 0 (λW h=>(h.at_ 2).2.1) hm u40 i40 ?_;refine AW.ro 1 (λW h=>(h.at_ 3).2.1) hq u40 i40 ?_;refine AW.ro 2 (λW h=>(h.at_ 17).2.1) p u40 i40 ?_;refine AW.gi 3 (λ_=>HT.1 _) λx1 H=>?_
 refine AW.gi 4 (λ_=>HT.2 _) λmf G=>?_
 have g2:=mk1 ((gq.drew.grow H).grow G);clear H G gq HT;refine AW.nx 5 (oZ l 136) ?_;refine hG (mf.setCells l 136 (wn R.mu.val)) λi0 k3=>?_
 have kr:=mk1 (Rp.Tu kx.2.2 (g2.at_ 10) R.mu.val);have ez:Hid (({ p6 with m:=R.mu.val }:Rp)=pz):=by
  rw[<-L.out,<-io.out,<-jf.out,<-fx.out,<-fn.out,<-fs.out,<-gn.out];rfl
 rw[ez.out]at kr;have ko:=mk1 (g2.upd 10 k3 kr.2.1);have b6:pz.Ok:=kr.2.2;refine AW.fi (us:=wn R.mu.val) ix (aM _) i40 (λ_=>⟨kr.1,?_⟩);rw[k3.out];clear g2 kx kr k3;refine hG (U3 pz.l.toArray) λnb h6=>?_
 refine hG (bB L8) λL9 b8=>?_
 have s9:L9.size=32:=by rw[<-b8.out];exact bE _ _
 refine hG (nv R.w.val) λvw bo=>?_
 have j0:Hid (UH prog 81 #[nb,vl] i0 (Ret λe w'=>SP.Only r 0 32 i0 w'/\Holds encB w' r 0 L9/\e=vw)):=by
  have h:=NS O pz b6 (by rw[<-L.out];exact R.tau.isLt) (by rw[<-L.out];exact R.mu.isLt) (by rw[<-L.out];exact R.t.isLt) r L7 i0 (ko.log 14) s7;rw[<-fk.out,show enL (bB L6) pz.u pz.m pz.t=L8 by rw[<-L.out];exact Y.l8.symm,mP O U Y.w,b8.out,h6.out,h9.out,bo.out]at h;exact h
 refine Uz ?_;refine PW.begin ?_;refine PW.ro (cs:=pz.l) (ko.at_ 10).2.1 h6 uRd (by rw[Rp.len b6];exact iRd) ?_;refine PW.ro (ko.at_ 11).2.1 h9 uLg iLg ?_;refine PW.ca j0.out ?_;rintro e lj ⟨hO,hH,he⟩;obtain rfl:=he.symm;have jx:=mk1 (ko.say 14 hO hH);clear j0 hO hH he ko;simp only[UN,Us,Uu,Uv];refine hG (lj.heap.size) λmr dz=>?_
 refine hG (lj.alloc (.cells (RG.z 4).toArray 49)) λn7 db=>?_
 refine hG (n7.setCells mr 0 (wn R.w.val)) λoc dm=>?_
 have gu:=mk1 (jx.new dz db);have ml:=mk1 (gu.put 18 dm);refine PW.al dz db ?_;refine PW.st dm bo (gu.th 18) i40 (aM _) ?_;clear jx gu;refine PW.dn ?_;have Kd:=mk1 ml.out.drew;have i1:=mk1 (H8 O R.n i4 n (gGT P) (hGT P) (uGT P) (λi hi=>⟨((nK C U.1 R.n).tl i hi).ok,by show 1<=512;decide⟩) (mR C U.1).ok (by show 1<=512;decide) R.y.val R.w.val R.y.isLt R.w.isLt _ oc.drew Kd.nk (Kd.get 4));rw[M.out,bo.out]at i1;refine Uz ?_;refine AW.beg 10 10 (Iv.mx w _ _ 14 r true) (Kd.out.wk 14) ?_;refine AW.ro 0 (cs:=pz.l) (λW ⟨_,h⟩=>(h.at_ 10).2.1) h6 uRd (by rw[Rp.len b6];exact iRd) ?_;refine AW.ro 1 (λW ⟨_,h⟩=>(h.at_ 11).2.1) h9 uLg iLg ?_;refine AW.ro 2 (cs:=[.slice (some ⟨ga,oa,none⟩) R.n ca,.slice (some ⟨gb,ob,none⟩) R.n cb,sZ gc mc cc]) (λW ⟨_,h⟩=>(h.at_ 8).2.1) (Hid.mk' rfl) uGr iGr ?_;refine AW.ro 3 (λW ⟨_,h⟩=>(h.at_ 12).2.1) M u40 i40 ?_;refine AW.ro 4 (λW ⟨_,h⟩=>(h.at_ 18).2.1) bo u40 i40 ?_;refine AW.mv 6 ?_;refine AW.mv 7 ?_;refine AW.ca 5 (λ_=>i1.out) (λe w' h=>h.1) ?_;rintro tv bg ⟨ci,k0⟩;simp only[UN,Us,Uu,Uv];have I:=mk1 (Kd.grow ci);refine hG (((aD C k).pst (chF N) ivF u t q t).s) λLx m5=>?_
 have ln:Hid (UH prog 83 #[vl,tv,av,bv] bg (Ret (PhR bg r t Lb Rb Lx Ab Bb))):=by
  obtain⟨Q,F⟩:=I.out.q;have E:∀g,Q g->g≠r:=I.ne F 14;rw[F.out]at k0;have h:=Mc C O k U t ht q u (gGT P) (oQ N R.y.val (hGT P)) ((uGT P).map (tmT N R.w.val)) (by rw[o8];exact vE C U.1 _) (by rw[mt];exact ML C k U R _) (by rw[hu];exact(mR C U.1).tm C k R.w) (by show 0<1;decide) (by show 1<=16;decide) Lb Rb nu nw r tv av bv bg (by rw[iw,b8.out];exact I.log 14) (by rw[iw,b8.out];exact s9) (by rw[<-hn];exact k0.mono E) (by rw[<-hn,o2];exact SLq.mono (I.uP F 11) E) (by rw[<-hn,n6];exact SLq.mono (I.uP F 12) E);rw[m5.out,<-ny,<-md,h9.out]at h;exact h
 clear i1 ci k0 Kd;refine AW.cw 8 (λ_=>ln.out) (λe w' _ h=>⟨_,I.say 14 h.on h.lg rfl rfl⟩) ?_;rintro e na bz;obtain⟨vL,vR,vA,vB,rfl,tL,tR,eA,eB⟩:=bz.ex;have j1:=mk1 (I.say 14 bz.on bz.lg);have l8:=(I.at_ 1).1;clear ln bz;simp only[UN,Us,Uu,Uv];have g7:=mk1 (Ox O pz b6 (by rw[<-L.out];exact R.tau.isLt) (by rw[<-L.out];exact R.mu.isLt) (by rw[<-L.out];exact R.t.isLt) vL vR vA vB ⟨tL.one.2,tR.one.2,eA.one.2,eB.one.2⟩ na);rw[h6.out]at g7;refine AW.ca 9 (λ_=>g7.out) (λe w' h=>h.1) ?_;rintro e j3 ⟨E,ra,rb,rc,bm,re,rf,bs,rfl,hT⟩;simp only[UN,Us,Uu,Uv];have f9:=mk1 (j1.grow E);have br:vA.oneCell'=true/\vB.oneCell'=true/\vL.oneCell'=true/\vR.oneCell'=true:=⟨eA.one.2,eB.one.2,tL.one.2,tR.one.2⟩
 have RA:Hid (RgA bg.heap.size t pz Lb Rb Ab Bb (.agg #[r33 ra,r33 rb,r33 rc,r33 bm,r32 re,r32 rf,r32 bs,vL,vR,vA,vB]) j3):=⟨_,_,_,_,_,_,_,_,_,_,_,rfl,hT.mono2 λ_ _ _=>trivial,tL.below E,tR.below E,(eA.keep (Kq.of_below E)).mono2 λ_ _ _=>trivial,(eB.keep (Kq.of_below E)).mono2 λ_ _ _=>trivial⟩
 clear hT tL tR eA eB E g7 j1;refine hG (j3.setCells k8 0 [r33 ra,r33 rb,r33 rc,r33 bm,r32 re,r32 rf,r32 bs,vL,vR,vA,vB]) λoi k2=>?_
 have jw:=mk1 (f9.put 1 k2);have RB:=mk1 (RA.set (us:=[r33 ra,r33 rb,r33 rc,r33 bm,r32 re,r32 rf,r32 bs,vL,vR,vA,vB]) (f9.at_ 1) l8);rw[k2.out]at RB;refine AW.fi (us:=[r33 ra,r33 rb,r33 rc,r33 bm,r32 re,r32 rf,r32 bs,vL,vR,vA,vB]) (Hid.mk' rfl) (by simp only[Yc,Zv,ZM,br.1,br.2.1,br.2.2.1,br.2.2.2,show ∀g,(r33 g).oneCell'=true from λ_=>rfl,show ∀g,(r32 g).oneCell'=true from λ_=>rfl,yBC]) iAr (λ_=>⟨f9.th 1,?_⟩);rw[k2.out];have KE:=mk2 jw.bl (V3 I.bl.size RB.out);have K8:=jw.at_ 1;refine wp_ret ?_;refine UE (aG 8 28 rfl K8 rfl uAr iAr) rfl ?_;exact⟨_,rfl,KE.1,_,KE.2.1,KE.2.2⟩
def Wd(n t:Nat):Prop:=n=2^t/\3<=t/\t<=6
theorem Wd.hv{n t:Nat}(h:Wd n t)(W:Ur):UH prog 57 #[iZ n] W (rZ W λe w'=>e=.tuple #[iZ t,.bool true]):=by
 obtain⟨rfl,-,k⟩:=h;rw[<-Pu t k];exact Px (2^t) (OT t k) W
theorem Wd.eight{n t:Nat}(h:Wd n t):8<=n:=by
 obtain⟨rfl,k,-⟩:=h;exact VA (n:=2) (by decide) k
theorem NI{n t:Nat}(h:Wd n t)(w:Ur):UH prog 15 #[iZ n] w (rZ w λe w'=>e=.bool true):=by
 have H:=mk1 (h.hv w);have f:(8:Int)<=(n:Int):=by have:=h.eight;omega
 clear h;go_enter func15,ntmps15;go_wp2_with fail
 refine H.mono ?_;rintro e c ⟨d,rfl,b,rfl⟩;have k:=mk1 b;go_wp2;go_ret;exact⟨_,rfl,k.out,rfl⟩
theorem Fj{n t:Nat}(h:Wd n t)(w:Ur):UH prog 17 #[iZ n] w (rZ w λe w'=>e=uZ ((2^n-1:Nat):Int)):=by
 obtain⟨rfl,b,c⟩:=h;have k:t=3\/t=4\/t=5\/t=6:=by omega
 rcases k with rfl|rfl|rfl|rfl
 all_goals
  go_enter func17,ntmps17;go_wp2;go_ret;exact⟨_,rfl,UR _ _,rfl⟩
omit [NeZero N] in
theorem PO(O:Ord N)(a b:Fin N)(W:Ur):UH prog 131 #[nv a.val,nv b.val] W (rZ W λe w'=>e=nv (a-b).val):=by
 rw[I8];exact Dl O a.val b.val a.isLt b.isLt W
def rgD(n:Nat)(y z:Fin N):Fin N:=(z-z*z)*Md.pr (λ_=>1) (pwF y) n-z*z*z*ofF N (2^n-1)
theorem B6(a:Bs)(k:a.size=33)(n:Nat)(w:Ur):UH prog 64 #[pvl a,nv n] w (rZ w λe w'=>Sm w.heap.size w' e [(n,a)]):=
 (kU a k n w).mono λ_ _ ⟨_,b,f,_,d,c,hR⟩=>⟨_,b,f,by rw[d];exact Sm.one hR c rfl⟩
theorem Ls(C:Fld P)(O:Ord N)(k:∀r:EC.Pt P,On r->mul N r=none)(hP:IsP N)(hN:18446744073709551616<=N){n t:Nat}(hw:Wd n t)(p:Rp)(ok:p.Ok)(V:Bs)(Vp P1 P2:OnP P)(hV:V=wP Vp)(h1:p.c=wP P1)(h2:p.d=wP P2)(tau tt x y z:Fin N)(hu:p.u=tau.val)(ht:p.t=tt.val)(w:Ur)(X Y:Bs)(hX:X=wP ((aD C k).cm (hPV C) (gPG C) (tt-rgD n y z) tau))(hY:Y=wP ((aD C k).ad ((aD C k).ad ((aD C k).ac (z*z) Vp) ((aD C k).ac x P1)) ((aD C k).ac (x*x) P2))):
 UH prog 122 #[.agg p.l.toArray,pvl V,iZ n,nv x.val,nv y.val,nv z.val] w (rZ w λe w'=>e=.bool (decide (X=Y))):=by
 have h9:n<=64:=by rw[hw.1];exact UC (VA (by decide) hw.2.2) (by decide)
 have sV:V.size=33:=by rw[hV];exact aT _
 obtain⟨vp,h7⟩:=hE (U3 p.l.toArray);obtain⟨vV,D⟩:=hE (pvl V);obtain⟨vx,j⟩:=hE (nv x.val);obtain⟨vy,E⟩:=hE (nv y.val);obtain⟨vz,d⟩:=hE (nv z.val);obtain⟨vq,f⟩:=hE (nv (z*z).val);obtain⟨k6,hc⟩:=hE (w.heap.size);obtain⟨w1,hk⟩:=hE (w.alloc (.cells p.l.toArray 137));obtain⟨k7,ka⟩:=hE (w1.heap.size);obtain⟨w2,hz⟩:=hE (w1.alloc (.cells (aA V).toArray 103));obtain⟨k9,k3⟩:=hE (w2.heap.size);obtain⟨w3,k5⟩:=hE (w2.alloc (.cells (wn x.val).toArray 49));obtain⟨kf,L⟩:=hE (w3.heap.size);obtain⟨w4,T⟩:=hE (w3.alloc (.cells (wn y.val).toArray 49));obtain⟨kh,I⟩:=hE (w4.heap.size);obtain⟨w5,hq⟩:=hE (w4.alloc (.cells (wn z.val).toArray 49));have K5:=mk1 (((((Mp.start w).new hc hk).new ka hz).new k3 k5).new L T |>.new I hq);have B1:Hid ((Ve 137 vp).run prog w=.ok (jZ k6) w1):=by rw[<-h7.out,<-hk.out,<-hc.out];exact J3 ok w
 have B2:Hid ((Ve 103 vV).run prog w1=.ok (jZ k7) w2):=by rw[<-D.out,<-hz.out,<-ka.out];exact rM sV w1
 have B3:Hid ((Ve 49 vx).run prog w2=.ok (jZ k9) w3):=by rw[<-j.out,<-k5.out,<-k3.out];exact boxS _ w2
 have B4:Hid ((Ve 49 vy).run prog w3=.ok (jZ kf) w4):=by rw[<-E.out,<-T.out,<-L.out];exact boxS _ w3
 have B5:Hid ((Ve 49 vz).run prog w4=.ok (jZ kh) w5):=by rw[<-d.out,<-hq.out,<-I.out];exact boxS _ w4
 rw[h7.out,D.out,j.out,E.out,d.out];go_enter func122,ntmps122;refine Uz ?_;refine PW.begin ?_;refine PW.ns B1.out ?_;refine PW.ns B2.out ?_;refine PW.ns B3.out ?_;refine PW.ns B4.out ?_;refine PW.ns B5.out ?_;refine PW.va (.bool false) ?_;refine PW.dn ?_;clear B1 B2 B3 B4 B5;have HQ:=mk1 (xR O z z w5);rw[d.out,f.out]at HQ;refine Uz ?_;refine PW.begin ?_;refine PW.ro (K5.at_ 4).2.1 d u40 i40 ?_;refine PW.ro (K5.at_ 4).2.1 d u40 i40 ?_;refine PW.gi HQ.out λw6 m=>?_
 have K6:=mk1 (K5.grow m);obtain⟨ki,H⟩:=hE (w6.heap.size);obtain⟨w7,kc⟩:=hE (w6.alloc (.cells (RG.z 4).toArray 49));obtain⟨w8,kd⟩:=hE (w7.setCells ki 0 (wn (z*z).val));have K7:=mk1 (K6.new H kc);have K8:=mk1 (K7.put 5 kd);refine PW.al H kc ?_;refine PW.st kd f (K7.th 5) i40 (aM _) ?_;clear K5 K6 K7 HQ m;refine PW.dn ?_;obtain⟨v1,k2⟩:=hE (nv 1);have HO:=mk1 (zW 1 (by decide) w8);rw[k2.out]at HO;refine Uz ?_;refine PW.begin ?_;refine PW.gi HO.out λw9 hm=>?_
 have K9:=mk1 (K8.grow hm);obtain⟨kb,hl⟩:=hE (w9.heap.size);obtain⟨wA,h0⟩:=hE (w9.alloc (.cells (wn 1).toArray 49));have h4:Hid ((Vy 124 1 #[(0,v1)]).run prog w9=.ok (sZ kb 1 1) wA):=by rw[<-k2.out,<-h0.out,<-hl.out];exact SG 1 w9
 have FA:=aN hl h0;refine PW.ns h4.out ?_;refine PW.mv ?_;refine PW.ca (ID 1 kb n (by omega) wA FA.2) ?_;rintro ov wB ⟨hn,B⟩;simp only[UN,Us,Uu,Uv];replace B:=B.fin (λ_=>(1:Fin N)) (λi _=>(US hP.1).symm);have A:=mk1 ((K9.grow FA.1).gets hn (pqS ov n λi=>((λ_=>(1:Fin N)) i).val) B);clear K8 K9 HO hm B hn FA h4;refine PW.va ov ?_;refine PW.dn ?_;obtain⟨a1,ke⟩:=hE (nv (z-z*z).val);obtain⟨a2,hj⟩:=hE (nv (Md.pr (λ_=>1) (pwF y) n).val);obtain⟨a3,kj⟩:=hE (nv ((z-z*z)*Md.pr (λ_=>1) (pwF y) n).val);obtain⟨a4,kg⟩:=hE (nv (z*z*z).val);obtain⟨a5,h6⟩:=hE (nv (ofF N (2^n-1)).val);obtain⟨a6,km⟩:=hE (nv (z*z*z*ofF N (2^n-1)).val);obtain⟨a7,F⟩:=hE (nv (rgD n y z).val);have S:=mk5 (λW=>PO O z (z*z) W) (λW=>xR O (z-z*z) (Md.pr (λ_=>1) (pwF y) n) W) (λW=>xR O (z*z) z W) (λW=>xR O (z*z*z) (ofF N (2^n-1)) W) (λW=>PO O ((z-z*z)*Md.pr (λ_=>1) (pwF y) n) (z*z*z*ofF N (2^n-1)) W);rw[show(z-z*z)*Md.pr (λ_=>1) (pwF y) n-z*z*z*ofF N (2^n-1)=rgD n y z from rfl,ke.out,hj.out,kj.out,kg.out,h6.out,km.out,F.out,d.out,f.out]at S;have l2:2^n-1<18446744073709551616:=by
  have:=VA (n:=2) (by decide) h9;have:=XK (n:=n) (show 0<2 by decide);omega
 obtain⟨gi,U⟩:=hE (2^n-1);have k4:Hid (∀W,UH prog 70 #[uZ gi] W (rZ W λe w'=>e=a5)):=λW=>by
  rw[<-h6.out,<-U.out,show(ofF N (2^n-1)).val=2^n-1 from US (by omega)];exact zW _ l2 W
 have he:Hid (∀W,UH prog 17 #[iZ n] W (rZ W λe w'=>e=uZ gi)):=λW=>by
  rw[<-U.out];exact Fj hw W
 obtain⟨Q,hQ⟩:=A.out.q;refine Uz ?_;refine(gwL [pE vz,pE vq,pE a1,pE ov,pE vy,pE (iZ n),RG.pS Q n (λi=>(pwF y i).val),pE a2,pE a3,pE vq,pE vz,pE a4,pE (iZ n),pE (uZ gi),pE a5,pE a6,pE a7,RG.pN wB.heap.size (RG.z 4)] (λW=>kZ wB W) (λW W' hb h=>h.trans (hb.mono h.size))).tail2 18 kR kR kR ⟨
  gLo (cs:=wn z.val) 11 (λW c=>((A.grow c).at_ 4).2.1) u40 i40 (hR:=λ_=>d.out),
  gLo (cs:=wn (z*z).val) 13 (λW c=>((A.grow c).at_ 5).2.1) u40 i40 (hR:=λ_=>f.out),
  gC2 0 24 1 25 S.1,
  gO 14 ov,
  gLo (cs:=wn y.val) 10 (λW c=>((A.grow c).at_ 3).2.1) u40 i40 (hR:=λ_=>E.out),
  gO 2 (iZ n),
  eD 4 28 5 29 74 (λx y=>#[x,y]) (λa u W l o c=>by
   obtain rfl:a=vy:=l;obtain rfl:u=iZ n:=o;rw[<-E.out];exact(Nz O y.val y.isLt n (by omega) W).mono λe W' ⟨v,h1,h2,G⟩=>⟨v,h1,h2,(G.mono λg q=>(A.grow c).nkq hQ g q).fin (pwF y) λi _=>lV hP.1 y i⟩),
  eD 3 27 6 30 78 (λx y=>#[x,y]) (λa u W l o c=>by
   obtain rfl:a=ov:=l;have h:=Bc O n (by omega) (λi=>((λ_=>(1:Fin N)) i).val) (λi=>(pwF y i).val) (λi _=>(1:Fin N).isLt) (λi _=>(pwF y i).isLt) a u W ((A.grow c).uP hQ 0) o;rw[kE,hj.out]at h;exact h),
  gC2 2 26 7 31 S.2.1,
  gLo (cs:=wn (z*z).val) 13 (λW c=>((A.grow c).at_ 5).2.1) u40 i40 (hR:=λ_=>f.out),
  gLo (cs:=wn z.val) 11 (λW c=>((A.grow c).at_ 4).2.1) u40 i40 (hR:=λ_=>d.out),
  gC2 9 33 10 34 S.2.2.1,
  gO 2 (iZ n),
  oW 12 36 17 (λx=>#[x]) (λa W l c=>by
   obtain rfl:a=iZ n:=l;exact he W),
  oW 13 37 70 (λx=>#[x]) (λa W l c=>by
   obtain rfl:a=uZ gi:=l;exact k4 W),
  gC2 11 35 14 38 S.2.2.2.1,
  gC2 8 32 15 39 S.2.2.2.2,
  xP (RG.z 4) 49 (λW W' h c=>⟨_,rfl,c.size,h⟩),yCn⟩ ⟨rfl,rfl,rfl,Uw _,λ_ _=>rfl⟩ ?_
 intro Z wC hR c;have ha:Z 16=a7:=hR 16 dC;obtain⟨kl,k0,k8,hi⟩:=hR 17 dC;dsimp only[bU,VK,Xn,Xo];simp only[UN,Us,Uu,Uv];rw[ha,k0];have KC:=mk1 (A.add c hi k8);obtain⟨wD,h8⟩:=hE (wC.setCells kl 0 (wn (rgD n y z).val));have KD:=mk1 (KC.put 6 h8);refine PW.st h8 F (KC.th 6) i40 (aM _) ?_;clear A KC hR c hi k8 ha k0 S k4 he hQ;refine PW.dn ?_;have tV:Tl N [((z*z).val,V)] ((aD C k).ac (z*z) Vp):=by rw[hV];exact Tl.pt C k (z*z) Vp
 have t1:Tl N [(x.val,p.c)] ((aD C k).ac x P1):=by rw[h1];exact Tl.pt C k x P1
 have t2:Tl N [((x*x).val,p.d)] ((aD C k).ac (x*x) P2):=by rw[h2];exact Tl.pt C k (x*x) P2
 have t3:=tV.app C k t1;have t4:=t3.app C k t2;obtain⟨vc,hp⟩:=hE (pvl p.c);obtain⟨vd,hr⟩:=hE (pvl p.d);obtain⟨kr,hy⟩:=hE (nv (x*x).val);obtain⟨vY,h5⟩:=hE (pvl Y);have G:=mk7 (λW=>B6 V sV (z*z).val W) (λW=>B6 p.c ok.c x.val W) (λW=>B6 p.d ok.d (x*x).val W) (λW=>xR O x x W)
  (λ(W:Ur) (s u:Ut) (a:Sm 0 W s [((z*z).val,V)]) (b:Sm 0 W u [(x.val,p.c)])=>cO 0 s u _ _ (by simp) (by simp) (by simp) tV.ok.sz t1.ok.sz W (UX a) (UX b))
  (λ(W:Ur) (s u:Ut) (a:Sm 0 W s ([((z*z).val,V)]++[(x.val,p.c)])) (b:Sm 0 W u [((x*x).val,p.d)])=>cO 0 s u _ _ (by simp) (by simp) (by simp) t3.ok.sz t2.ok.sz W (UX a) (UX b))
  (λ(W:Ur) (s:Ut) (a:Sm 0 W s ([((z*z).val,V)]++[(x.val,p.c)]++[((x*x).val,p.d)]))=>(by rw[hY];exact t4.point C O k (by simp) (by simp) a:UH prog 67 #[s] W (rZ W λe w'=>e=pvl Y)))
 rw[D.out,hp.out,hr.out,j.out,f.out,hy.out,h5.out]at G;have ip:∀ {b:Bs},b.size=33->(prog.info? 103).map (·.size)=some (aA b).length:=λh=>by rw[aB h];exact iCP
 refine Uz ?_;refine AW.beg 15 15 (Iv.mp w _ _ false) KD.out.drew ?_;refine AW.ro 0 (λW h=>(h.at_ 1).2.1) D uCP (ip sV) ?_;refine AW.ro 1 (λW h=>(h.at_ 5).2.1) f u40 i40 ?_;refine AW.va 3 (oZ k6 66) ?_;refine AW.ro 4 (λW h=>(Rp.at7 ok (h.at_ 0).2.1).2.2.1) hp uCP (ip ok.c) ?_;refine AW.ro 5 (λW h=>(h.at_ 2).2.1) j u40 i40 ?_;refine AW.va 8 (oZ k6 99) ?_;refine AW.ro 9 (λW h=>(Rp.at7 ok (h.at_ 0).2.1).2.2.2.1) hr uCP (ip ok.d) ?_;refine AW.ro 10 (λW h=>(h.at_ 2).2.1) j u40 i40 ?_;refine AW.ro 11 (λW h=>(h.at_ 2).2.1) j u40 i40 ?_;refine AW.ca 2 (λ_=>G.1 _) (λe w' h=>h.1) ?_;rintro s1 x1 ⟨q,q1⟩;simp only[UN,Us,Uu,Uv];refine AW.ca 6 (λ_=>G.2.1 _) (λe w' h=>h.1) ?_;rintro s2 x2 ⟨l,q2⟩;simp only[UN,Us,Uu,Uv];refine AW.ca 7 (λ_=>G.2.2.2.2.1 _ _ _ (q1.q.keep (Kq.of_below l)).sm q2.q.sm) (λe w' h=>h.1) ?_;rintro s3 x3 ⟨o,q3⟩;simp only[UN,Us,Uu,Uv];refine AW.gi 12 (λ_=>G.2.2.2.1 _) λx4 M=>?_
 refine AW.ca 13 (λ_=>G.2.2.1 _) (λe w' h=>h.1) ?_;rintro s5 x5 ⟨R,q5⟩;simp only[UN,Us,Uu,Uv];refine AW.ca 14 (λ_=>G.2.2.2.2.2.1 _ _ _ ((q3.q.keep (Kq.of_below M)).keep (Kq.of_below R)).sm q5.q.sm) (λe w' h=>h.1) ?_;rintro s6 x6 ⟨m,q6⟩;simp only[UN,Us,Uu,Uv];have KE:=mk1 (((((KD.drew.grow q).grow l).grow o).grow M).grow R |>.gets m (pqM s6 _) q6.q);clear q l o M R m q1 q2 q3 q5 q6 KD;refine AW.nx 15 s6 ?_;refine AW.dn λ_=>?_
 obtain⟨kp,K⟩:=hE (nv tt.val);obtain⟨ko,J⟩:=hE (nv tau.val);obtain⟨vm,kk⟩:=hE (nv (tt-rgD n y z).val);obtain⟨vX,hs⟩:=hE (pvl X);have HM:=mk2 (λW=>PO O tt (rgD n y z) W) (λW=>oL (P:=P) C O (tt-rgD n y z).isLt tau.isLt W);rw[yB C k (tt-rgD n y z) tau,show wP ((aD C k).cm (hPV C) (gPG C) (tt-rgD n y z) tau)=X from hX.symm,K.out,J.out,kk.out,hs.out,F.out]at HM;have sX:X.size=33:=by rw[hX];exact aT _
 have sY:Y.size=33:=by rw[hY];exact aT _
 have k1:Hid (∀W:Ur,(eqGuard .eql 103 (.tmp 62) (.tmp 64) vX vY >>= λ_=>binOp .eql 103 vX vY).run prog W=.ok (.bool (decide (X=Y))) W):=λW=>by
  rw[<-hs.out,<-h5.out,UV,show(eqGuard .eql 103 (.tmp 62) (.tmp 64) (pvl X) (pvl Y)).run prog W=.ok () W by kernel_rfl];exact NR sX sY W
 refine Uz ?_;refine AW.beg 10 10 (Iv.mp w _ _ false) KE.out.drew ?_;refine AW.va 0 (oZ k6 140) ?_;refine AW.ro 1 (cs:=wn tt.val) (λW h=>by rw[<-ht];exact(Rp.at7 ok (h.at_ 0).2.1).2.2.2.2.2.2) K u40 i40 ?_;refine AW.ro 2 (λW h=>(h.at_ 6).2.1) F u40 i40 ?_;refine AW.va 4 (oZ k6 132) ?_;refine AW.ro 5 (cs:=wn tau.val) (λW h=>by rw[<-hu];exact(Rp.at7 ok (h.at_ 0).2.1).2.2.2.2.1) J u40 i40 ?_;refine AW.mv 7 ?_;refine AW.gi 3 (λ_=>HM.1 _) λx1 q=>?_
 refine AW.gi 6 (λ_=>HM.2 _) λx2 l=>?_
 refine AW.gi 8 (λh=>G.2.2.2.2.2.2 _ _ (SmQ.sm (h.get 1))) λx3 o=>?_
 have KF:=mk1 (((KE.drew.grow q).grow l).grow o);refine AW.ns 9 (k1 x3) (UR _ _) ?_;refine AW.nx 10 (.bool (decide (X=Y))) ?_;refine AW.dn λ_=>?_
 clear q l o KE G HM k1;obtain⟨bb,kn⟩:=hE (decide (X=Y));rw[kn.out];go_wp2;go_ret;exact⟨_,rfl,KF.bl,rfl⟩
def rgS(y z:Fin N)(i:Nat):Fin N:=z*pwF y i+z*z*pwF (ofF N 2) i
theorem LS(k:IsP N)(b:2<N)(y z:Fin N)(i:Nat):sPl N (sTi N z.val (pwN N y.val i)) (sTi N (sTi N z.val z.val) (pwN N 2 i))=(rgS y z i).val:=by
 show _=(z*pwF y i+z*z*pwF (ofF N 2) i).val;rw[mA,fL,fL,fL,<-lV k.1,<-lV k.1,show(ofF N 2).val=2 from US b]
theorem RS(C:Fld P)(O:Ord N)(k:∀r:EC.Pt P,On r->mul N r=none)(hP:IsP N)(hN:18446744073709551616<=N){n:Nat}(hn:0<n)(hy:n<=64)(p:Rp)(ok:p.Ok)(PA PS:OnP P)(hA:p.a=wP PA)(hS:p.s=wP PS)(mu tt x y z:Fin N)(hm:p.m=mu.val)(ht:p.t=tt.val)(G H:Nat->List (Nat × Bs))(U:List (Nat × Bs))(g h:Nat->OnP P)(u:OnP P)(hG:Gd N n 1 G g)(hH:Gd N n 1 H h)(hU:Tl N U u)(hu:U.length=1):
 ∃l,Tl N l ((aD C k).ad ((aD C k).ad ((aD C k).ad ((aD C k).ad PA ((aD C k).ac x PS)) ((aD C k).ac (-1) ((aD C k).ac mu (gPG C)))) ((aD C k).ad ((aD C k).dt (λ_=>-z) g n) ((aD C k).dt (rgS y z) h n))) ((aD C k).ac tt u))/\(0<l.length/\l.length<=150) /\
  ∀(Q:Nat->Prop) (V:Ut) (w:Ur),GRq Q w V n G H U->UH prog 124 #[.agg p.l.toArray,V,iZ n,nv x.val,nv y.val,nv z.val] w (rZ w λe w'=>Sm w.heap.size w' e l):=by
 obtain⟨Gb,R⟩:=hE (wr (gG P));have sG:Gb.size=33:=by rw[<-R.out];exact aT _
 have tA:Tl N [(1,p.a)] PA:=by rw[hA];exact Tl.one C hP.1 PA
 have tS:Tl N [(x.val,p.s)] ((aD C k).ac x PS):=by rw[hS];exact Tl.pt C k x PS
 have tG:Tl N [(mu.val,Gb)] ((aD C k).ac mu (gPG C)):=by rw[<-R.out];exact Tl.pt C k mu (gPG C)
 have t1:=tA.app C k tS;have tM:=tG.tm C k (-1);rw[Rr hP.1]at tM;have t2:=t1.app C k tM;have tL:=(hG.cmb C k (λ_=>-z)).1.app C k (hH.cmb C k (rgS y z)).1;have lL:(dH N (λ_=>(-z).val) G n++dH N (λi=>(rgS y z i).val) H n).length=n+n:=by rw[UA,(hG.cmb C k (λ_=>-z)).2,(hH.cmb C k (rgS y z)).2,Xk]
 have tU:=hU.tm C k tt;have lU:(U.map (tmT N tt.val)).length=1:=by rw[UQ,hu]
 have t3:=t2.app C k tL;have t4:=t3.app C k tU;have h9:=sN hn (by decide:0<1) (by omega) hG hH hU (by omega) (by omega);refine⟨_,t4,⟨by simp,by simp only[UA,UQ,lL,lU,List.length_cons,List.length_nil]at *;omega⟩,λQ V w h0=>?_⟩;obtain⟨lb,A⟩:=hE (dH N (λ_=>(-z).val) G n++dH N (λi=>(rgS y z i).val) H n);obtain⟨lu,E⟩:=hE (U.map (tmT N tt.val));obtain⟨S,t⟩:=hE ([(1,p.a)]++[(x.val,p.s)]++[(mu.val,Gb)].map (tmT N (sMi N 0 1)));rw[t.out,A.out,E.out];have n2:S.length=3:=by rw[<-t.out];rfl
 rw[A.out]at tL lL;rw[E.out]at tU lU;rw[t.out]at t2;have h1:=t2.app C k tL;have h2:2<N:=by omega
 obtain⟨vp,Y⟩:=hE (U3 p.l.toArray);obtain⟨vx,D⟩:=hE (nv x.val);obtain⟨vy,F⟩:=hE (nv y.val);obtain⟨vz,J⟩:=hE (nv z.val);obtain⟨vm,hi⟩:=hE (nv mu.val);obtain⟨vt,hb⟩:=hE (nv tt.val);obtain⟨vG,hq⟩:=hE (pvl Gb);obtain⟨va,h7⟩:=hE (pvl p.a);obtain⟨vs,hc⟩:=hE (pvl p.s);have K:=mk8 (λW=>AS p.a ok.a W) (λW=>B6 p.s ok.s x.val W) (λW=>B6 Gb sG mu.val W) (λW=>NQ (P:=P) C W)
  (λ(W:Ur) (s u:Ut) (a:Sm 0 W s [(1,p.a)]) (b:Sm 0 W u [(x.val,p.s)])=>cO 0 s u _ _ (by simp) (by simp) (by simp) tA.ok.sz tS.ok.sz W (UX a) (UX b))
  (λ(W:Ur) (s u:Ut) (a:Sm 0 W s ([(1,p.a)]++[(x.val,p.s)])) (b:Sm 0 W u [(mu.val,Gb)])=>wH O 0 s u _ _ (by simp) (by simp) (by simp) t1.ok.sz tG.ok.sz tG.ok.lt W (WA _) a b)
  (λ(W:Ur) (s u:Ut) (a:Sm 0 W s S) (b:Sm 0 W u lb)=>cO 0 s u S lb (by rw[UA];omega) (by omega) (by omega) t2.ok.sz tL.ok.sz W (UX a) (UX b))
  (λ(W:Ur) (s u:Ut) (a:Sm 0 W s (S++lb)) (b:Sm 0 W u lu)=>cO 0 s u (S++lb) lu (by simp only[UA];omega) (by rw[UA];omega) (by omega) h1.ok.sz tU.ok.sz W (UX a) (UX b))
 rw[t.out,R.out,hq.out,h7.out,hc.out,D.out,hi.out]at K;have hr:Hid (∀(Q:Nat->Prop) (W:Ur) (v a b:Ut),GRq Q W v n G H U->SLq Q W a n (λ_=>(-z).val)->SLq Q W b n (λi=>(rgS y z i).val)->UH prog 66 #[v,a,b] W (rZ W λe w'=>Sm W.heap.size w' e lb)):=λQ W v a b g1 g2 g3=>by
  rw[<-A.out];exact xJ O n 1 G H U h9 _ _ (λi _=>(-z).isLt) (λi _=>(rgS y z i).isLt) v a b W g1 g2 g3
 have hw:Hid (∀(W:Ur) (v:Ut),Sm 0 W v U->UH prog 164 #[v,vt] W (rZ W λe w'=>Sm W.heap.size w' e lu)):=λW v a=>by
  rw[<-E.out,<-hb.out];exact eG O tt.isLt 0 v U (by omega) hU.ok.szm hU.ok.lt W a
 have he:=mk1 (λW=>EE O h2 y.val z.val y.isLt z.isLt n (by omega) W);rw[F.out,J.out]at he;clear A E t tA tS tG t1 tM t2 tL tU t3 t4 h1 h9;obtain⟨q1,q2,q3,rfl,-,-,-⟩:=h0.ex;obtain⟨k6,h4⟩:=hE (w.heap.size);obtain⟨w1,h6⟩:=hE (w.alloc (.cells p.l.toArray 137));obtain⟨k7,hl⟩:=hE (w1.heap.size);obtain⟨w2,ha⟩:=hE (w1.alloc (.cells [q1,q2,q3].toArray 133));obtain⟨k9,hj⟩:=hE (w2.heap.size);obtain⟨w3,hk⟩:=hE (w2.alloc (.cells (wn x.val).toArray 49));obtain⟨hp,M⟩:=hE (w3.heap.size);obtain⟨w4,X⟩:=hE (w3.alloc (.cells (wn y.val).toArray 49));obtain⟨hs,L⟩:=hE (w4.heap.size);obtain⟨w5,h8⟩:=hE (w4.alloc (.cells (wn z.val).toArray 49));have K0:=(Mp.start w).has (pqG (.agg #[q1,q2,q3]) n G H U) (h0.mono2 λg _ _ e=>by cases e);have K5:=mk1 ((((K0.new h4 h6).new hl ha).new hj hk).new M X |>.new L h8);obtain⟨V,m⟩:=hE (U3 #[q1,q2,q3]);have B1:Hid ((Ve 137 vp).run prog w=.ok (jZ k6) w1):=by rw[<-Y.out,<-h6.out,<-h4.out];exact J3 ok w
 have B2:Hid ((Ve 133 V).run prog w1=.ok (jZ k7) w2):=by rw[<-m.out,<-ha.out,<-hl.out];exact CL _ _ _ w1
 have B3:Hid ((Ve 49 vx).run prog w2=.ok (jZ k9) w3):=by rw[<-D.out,<-hk.out,<-hj.out];exact boxS _ w2
 have B4:Hid ((Ve 49 vy).run prog w3=.ok (jZ hp) w4):=by rw[<-F.out,<-X.out,<-M.out];exact boxS _ w3
 have B5:Hid ((Ve 49 vz).run prog w4=.ok (jZ hs) w5):=by rw[<-J.out,<-h8.out,<-L.out];exact boxS _ w4
 rw[Y.out,m.out,D.out,F.out,J.out];rw[m.out]at K5;have ip:∀ {b:Bs},b.size=33->(prog.info? 103).map (·.size)=some (aA b).length:=λh=>by rw[aB h];exact iCP
 clear K0 h0;go_enter func124,ntmps124;refine Uz ?_;refine PW.begin ?_;refine PW.ns B1.out ?_;refine PW.ns B2.out ?_;refine PW.ns B3.out ?_;refine PW.ns B4.out ?_;refine PW.ns B5.out ?_;refine PW.va (.slice none 0 0) ?_;refine PW.dn ?_;clear B1 B2 B3 B4 B5;refine Uz ?_;refine AW.beg 13 13 (Iv.mp w _ _ false) K5.out.drew ?_;refine AW.va 0 (jZ k6) ?_;refine AW.ro 1 (λW h=>(Rp.at7 ok (h.at_ 0).2.1).1) h7 uCP (ip ok.a) ?_;refine AW.va 3 (oZ k6 33) ?_;refine AW.ro 4 (λW h=>(Rp.at7 ok (h.at_ 0).2.1).2.1) hc uCP (ip ok.s) ?_;refine AW.ro 5 (λW h=>(h.at_ 2).2.1) D u40 i40 ?_;refine AW.va 9 (oZ k6 136) ?_;refine AW.ro 10 (cs:=wn mu.val) (λW h=>by rw[<-hm];exact(Rp.at7 ok (h.at_ 0).2.1).2.2.2.2.2.1) hi u40 i40 ?_;refine AW.ca 2 (λ_=>K.1 _) (λe w' h=>h.1) ?_;rintro s1 x1 ⟨q,e1⟩;simp only[UN,Us,Uu,Uv];refine AW.ca 6 (λ_=>K.2.1 _) (λe w' h=>h.1) ?_;rintro s2 x2 ⟨f,Z⟩;simp only[UN,Us,Uu,Uv];refine AW.ca 7 (λ_=>K.2.2.2.2.1 _ _ _ (e1.q.keep (Kq.of_below f)).sm Z.q.sm) (λe w' h=>h.1) ?_;rintro s3 x3 ⟨o,e3⟩;simp only[UN,Us,Uu,Uv];refine AW.gi 8 (λ_=>K.2.2.2.1 _) λx4 d=>?_
 refine AW.ca 11 (λ_=>K.2.2.1 _) (λe w' h=>h.1) ?_;rintro s5 x5 ⟨j,e5⟩;simp only[UN,Us,Uu,Uv];refine AW.ca 12 (λ_=>K.2.2.2.2.2.1 _ _ _ ((e3.q.keep (Kq.of_below d)).keep (Kq.of_below j)).sm e5.q.sm) (λe w' h=>h.1) ?_;rintro s6 x6 ⟨h5,e6⟩;simp only[UN,Us,Uu,Uv];have KE:=mk1 (((((K5.drew.grow q).grow f).grow o).grow d).grow j |>.gets h5 (pqM s6 S) e6.q);clear q f o d j h5 e1 Z e3 e5 e6 K5;refine AW.nx 13 s6 ?_;refine AW.dn λ_=>?_
 refine Uz ?_;refine AW.beg 16 16 (Iv.mp w _ _ false) KE.out.drew ?_;refine AW.mv 0 ?_;refine AW.ro 1 (λW h=>(h.at_ 1).2.1) m uGr iGr ?_;refine AW.ro 2 (λW h=>(h.at_ 3).2.1) F u40 i40 ?_;refine AW.ro 3 (λW h=>(h.at_ 4).2.1) J u40 i40 ?_;refine AW.mv 4 ?_;refine AW.va 10 (oZ k7 2) ?_;refine AW.ce 11 AB (λW h=>(h.at_ 1).2.1 2 _ rfl) ?_;refine AW.va 12 (oZ k6 140) ?_;refine AW.ro 13 (cs:=wn tt.val) (λW h=>by rw[<-ht];exact(Rp.at7 ok (h.at_ 0).2.1).2.2.2.2.2.2) hb u40 i40 ?_;refine AW.ca 5 (λ_=>he _) (λe w' h=>h.1) ?_;rintro e y1 ⟨q,ls,rs,rfl,B,I⟩;simp only[UN,Us,Uu,Uv];replace B:=B.fin (λ_=>-z) (λi _=>(I4 z).symm);replace I:=I.fin (rgS y z) (λi _=>LS hP h2 y z i);have T:=mk1 ((KE.drew.gets q (pqS ls n λ_=>(-z).val) B).has (pqS rs n λi=>(rgS y z i).val) (I.mono λg hg=>KE.drew.nk g hg));clear B I q;refine AW.va 6 ls ?_;refine AW.va 7 rs ?_;refine AW.ca 8 (λ_=>hr _ _ _ _ _ (T.get 0) (T.get 2) (T.get 3)) (λe w' h=>h.1) ?_;rintro s2 y2 ⟨f,Z⟩;simp only[UN,Us,Uu,Uv];refine AW.ca 9 (λ_=>K.2.2.2.2.2.2.1 _ _ _ (SmQ.sm ((T.grow f).get 1)) Z.q.sm) (λe w' h=>h.1) ?_;rintro s3 y3 ⟨o,e3⟩;simp only[UN,Us,Uu,Uv];have KG:=mk1 ((T.grow f).grow o);refine AW.ca 14 (λ_=>hw _ _ (by
  have hh:GRq _ y3 V n G H U:=KG.get 0;rw[<-m.out]at hh;obtain⟨a,b,c,e,-,-,h3⟩:=hh.ex;cases e
  exact h3.sm)) (λe w' h=>h.1) ?_
 rintro s4 y4 ⟨d,e4⟩;simp only[UN,Us,Uu,Uv];refine AW.ca 15 (λ_=>K.2.2.2.2.2.2.2 _ _ _ (e3.q.keep (Kq.of_below d)).sm e4.q.sm) (λe w' h=>h.1) ?_;rintro s5 y5 ⟨j,e5⟩;simp only[UN,Us,Uu,Uv];have KH:=mk1 ((KG.grow d).grow j);have E5:Hid (Sm w.heap.size y5 s5 (S++(lb++lu))):=by
  rw[<-List.append_assoc];exact e5.q.mono λg hg=>UC (KG.grow d).bl.size hg
 clear f o d j Z e3 e4 e5 T KG KE;refine AW.nx 16 s5 ?_;refine AW.dn λ_=>?_
 go_wp2;go_ret;exact⟨_,rfl,KH.bl,E5.out⟩
end
namespace RG
open Go Go.RowKit
variable {P:VD}{ops:Array Vk}{Q:Yq->Act->Ur->Prop}{w:Ur}{a0:Act}{G:Gw}{S:Ur->Ur->Prop}{B1:Ur->Prop}{m k:Nat}{o:Vk}
def Gw.lk(G:Gw)(m:Nat)(S:Ur->Ur->Prop)(k:Ur->Prop):Flow:=⟨G.R,λb=>if b=0 then G.B else k,λi w w'=>(i=m/\S w w')\/kZ w w',λ_=>[],λb=>if b=0 then [] else [m]⟩
theorem DK(h:bF P Q G.flow ops a0 k o):bF P Q (G.lk m S B1) ops a0 k o:=λa w K c e d f=>h a w K c e (λb _=>d 0 rfl) λv w' hE hR=>f v w' (UX hE) hR
theorem TR(h:∀(a:Act) (w:Ur),PreG G ops a0 m o a w->B1 w->∃(k:List (WF × Ut)) (f:Xs) (args:Array Ut),AllE a k/\(dA (k.map (·.1)) o,(U5 (evo (evl k)) o).run P w)=(true,.ok (.enter f args) w)/\UH P f args w (Ret λe w'=>S w w'/\G.R m e w'))(i:okK ops m [m]=true:=by kernel_rfl):bF P Q (G.lk m S B1) ops a0 m o:=by
 intro a w K q n c l;obtain⟨k,f,args,g,b,t⟩:=h a w ⟨λj d r hd=>q j d r rfl hd,n,c 0 rfl⟩ (c 1 i);simp only[V8.injEq]at b;unfold VT;rw[iU (evl k) (k.map (·.1)) b.1 g.ev,b.2,Xb];refine t.mono ?_;rintro e w' ⟨v,rfl,p,s⟩;exact l _ _ (U4 ⟨rfl,p⟩) s
theorem Gw.tailL(G:Gw)(m:Nat)(S:Ur->Ur->Prop)(c:Ur->Prop)(n:Nat)(q:∀j v w w',j≠m->S w w'->G.R j v w->G.R j v w')(p:∀w w',S w w'->G.B w->G.B w')(o:∀w w',kZ w w'->c w->c w')(g:(decide (n<ops.size) && mG ops n)=true)(u:P.follows .mixedOrders=true)(z:Be ops a0.tmps.size=true)(h:iK P Q (G.lk m S c) ops a0 0 (ops.toList.take n))(k:G.B w.drew)(s:c w.drew)
 (a:∀(V:Nat->Ut) (w':Ur),(∀i,i<n->G.R i (V i) w')->G.B w'->wpList P ops Q (ops.toList.drop n) (bU V (ops.toList.take n) 0 a0) w'):(V6 id ops true).wp P Q a0 w:=by
 rw[UL,decide_eq_true_eq]at g;refine qF (G.lk m S c) n g.1 g.2 u ⟨z,tB h,λi j _ _ l _ _ v w w' hE hR=>?_,λi b _ f w w' hE k=>?_⟩ (λb=>?_) λV w' y x=>a V w' (λi d=>y i d rfl) (x 0 rfl)
 ·rcases hE with⟨d,r⟩|hE
  ·exact q j v w w' (λe=>l (d.trans e.symm)) r hR
  ·exact G.sR j v w w' hE hR
 ·unfold Gw.lk at f k⊢;dsimp only at f k⊢;by_cases t:b=0
  ·rw[yCl t]at k⊢;rcases hE with⟨-,r⟩|hE
   ·exact p w w' r k
   ·exact G.sB w w' hE k
  ·rw[yCm t]at k f⊢;rcases hE with⟨d,-⟩|hE
   ·rw[d]at f;simp at f
   ·exact o w w' hE k
 ·unfold Gw.lk;dsimp only;split
  ·exact k
  ·exact s
end RG
section
open Go.RowKit Go.Sort Go.Deep SPA
def pX(b:Nat)(cs:List Ut):S1:=⟨λv w=>∃k,v=jZ k/\b<=k/\Row w k cs/\∀i x,w.cell? ⟨k,i,none⟩=some x->x∈cs,λ_ w w' d ⟨k,e,f,c,g⟩=>⟨k,e,f,c.below d,λi x hx=>g i x (by rw[<-UW (a:=⟨k,i,none⟩) (d.block k c.1)];exact hx)⟩⟩
theorem Ml{b r:Nat}{cs:List Ut}{v:Ut}{W W':Ur}(d:SP.Only r 0 32 W W')(l:r<b)(h:(pX b cs).p v W):(pX b cs).p v W':=by
 obtain⟨k,f,j,c,g⟩:=h;have e:=d.block k c.1 (by omega);exact⟨k,f,j,aV c d.size e,λi x hx=>g i x (by rw[<-UW (a:=⟨k,i,none⟩) e];exact hx)⟩
theorem RX{P:VD}{c:Array Vk}{Q:Yq->Act->Ur->Prop}{a0:Act}{G:Gw}{k:Nat}{o:Vk}(b:Nat)(cs:List Ut)(T:U8)(e:∀W,G.B W->b<=W.heap.size)(hR:∀v W,(pX b cs).p v W->G.R k v W)(d:∀W,(dA [] o,(U5 (evo (evl [])) o).run P W)=(true,.ok (.value (jZ W.heap.size)) (W.alloc (.cells cs.toArray T))):=by intro _;kernel_rfl):bF P Q G.flow c a0 k o:=
 bN λa W f=>⟨[],_,_,trivial,d W,aC W _,hR _ _ ⟨_,rfl,e W f.b,aE W cs T,λi x hx=>by
  rw[World.cell?_alloc_at _ _ _ _ rfl,Vg]at hx;exact VJ hx⟩⟩
section
variable {Q:Nat->Prop}{W:Ur}{v:Ut}{k n:Nat}{T G H:Nat->List (Nat × Bs)}{l U:List (Nat × Bs)}
theorem SmQ.offX(h:SmQ Q W v l)(e:0<l.length)(hx:∀i x,W.cell? ⟨k,i,none⟩=some x->x=.slice none 0 0):SmQ (λg=>Q g/\g≠k) W v l:=by
 obtain⟨g,c,j,n,m,f,d⟩:=h;refine⟨g,c,j,n,⟨m,?_⟩,f,d⟩;rintro rfl;match l,e with
 | (a,b) :: t,_=>cases hx _ _ (d 0 _ rfl)
theorem GLq.offX(h:GLq Q W v n T)(l:0<n)(s:∀j,j<n->0<(T j).length)(hx:∀i x,W.cell? ⟨k,i,none⟩=some x->x=.slice none 0 0):GLq (λg=>Q g/\g≠k) W v n T:=by
 obtain⟨g,o,c,q,m,r,p,d⟩:=h;refine⟨g,o,c,q,m,⟨r,?_⟩,p,λj f=>?_⟩
 ·rintro rfl;obtain⟨x,b,t,u,e,-⟩:=d 0 l;have:=hx _ _ b;rw[e]at this;cases this
 ·obtain⟨x,b,t⟩:=d j f;exact⟨x,b,t.offX (s j f) hx⟩
theorem GRq.offX(h:GRq Q W v n G H U)(b:0<n)(hG:∀j,j<n->0<(G j).length)(c:∀j,j<n->0<(H j).length)(f:0<U.length)(hx:∀i x,W.cell? ⟨k,i,none⟩=some x->x=.slice none 0 0):GRq (λg=>Q g/\g≠k) W v n G H U:=by
 obtain⟨m,q,o,e,p,l,d⟩:=h.ex;exact⟨m,q,o,e,p.offX b hG hx,l.offX b c hx,d.offX f hx⟩
end
theorem Mp.sayAdd{w W W':Ur}{f d:List (Nat × List Ut)}{S:List Pq}{k r:Nat}{c:List Ut}{L n:Bs}(h:Mp w W f S)(i:Nat)(o:SP.Only r 0 32 W W')(v:Holds encB W' r 0 n)(u:Row W' k c)(C:W.heap.size<=k)(l:f[i]? = some (r,aA L):=by rfl)(e:f.set i (r,aA n)++[(k,c)]=d:=by(simp only[Uu,Uv,Xc,Xt])<;>rfl):Mp w W' d S/\∀g,Nk f g->g≠k->Nk d g:=by
 subst e;have p:∀g,Nk (f.set i (r,aA n)++[(k,c)]) g↔Nk f g/\g≠k:=λg=>by
  unfold Nk;rw[Wq,Mp.keys l,WB];simp
 refine⟨?_,λg j q=>(p g).2 ⟨j,q⟩⟩;have j:=h.say i o v l rfl;have z:=h.lt (Mp.key l);refine⟨j.bl,λx hx=>?_,?_,λs y=>?_⟩
 ·rcases WB.1 hx with hx|hx
  ·exact j.rw x hx
  ·rw[WO.1 hx];exact⟨UC h.bl.size C,u⟩
 ·rw[Wq,YY];refine⟨j.nd,by simp,λa t b m e=>?_⟩;rw[Mp.keys l]at t;have q:=(h.lt t).2;simp at m;omega
 ·refine s.kp _ W _ ⟨o.size,λg m B=>o.block g B λe=>((p g).1 m).1 (by rw[e];exact Mp.key l)⟩ (s.mo _ _ _ (λg m t=>(p g).2 ⟨t,by omega⟩) (h.ob s y))
variable {P:Nat}[NeZero P]{N:Nat}[NeZero N]
theorem Js(C:Fld P)(k:∀r:EC.Pt P,On r->mul N r=none)(c:IsP N)(y:Fin N)(n:Nat):Gd N n 1 (oQ N y.val (hGT P)) (λi=>(aD C k).ac (pwF (ivF y) i) (gPt C ⟨#[114,105,103,104,116]⟩ i)):=by
 have g:=nK C c.1 n;refine⟨λi b=>?_,λi b=>by unfold oQ;rw[UQ];exact g.len i b⟩;have h:=(g.tl i b).tm C k (pwF (ivF y) i);rw[<-lV c.1]at h;exact h
end
section
open Go.RowKit Go.Sort Go.Deep SPA
section
variable {P:VD}{ops:Array Vk}{Q:Yq->Act->Ur->Prop}{p r:Nat}{J:Iv}{i fuel:Nat}{o:Vk}{listed:Array Bool}{a a':Act}{w w':Ur}{d:Option WF}{x v:Ut}{t:WF}{T:U8}{b off:Nat}{cs:List Ut}
theorem AG.ro(i:Nat)(u:∀W,J.p W->W.rangeAt b off cs)(hv:Hid (.agg cs.toArray=x))(f:(P.underlying T).map (·.isRow)=some true)(q:(P.info? T).map (·.size)=some cs.length)(h:AW P ops Q p r J fuel (listed.setIfInBounds i true) a' w)(ho:ops[i]? = some o:=by(simp only[Vg,U9,Vf])<;>rfl)(hd:o.dst=d:=by rfl)(j:V4 o (yielded ops a.tmps)=true:=by kernel_rfl)(k:o.op=.load T (.tmp t):=by rfl)(hx:a.eval (.tmp t)=oZ b off:=by rfl)
 (n:a.put d x=a':=by(simp only[UN,Us,Uu,Uv])<;>rfl) (s:aw1 ops p r (qw ops J.b p r i) i listed=true:=by kernel_rfl) (m:∀c a w,Q (.panic c) (a.put o.dst x) w->Q (.panic c) a w:=by exact λ_ _ _ h=>h):AW P ops Q p r J (fuel+1) listed a w:=by
 obtain rfl:=hv.out;obtain⟨e,l,g⟩:=Uy.1 f;exact AW.take i (qw ops J.b p r i) ho hd (yieldsIf_load_mid j T (.tmp t) k b off hx cs e (λw v=>u w (Sa.bel v)) l g q) n s m h
theorem AG.mv(i:Nat)(h:AW P ops Q p r J fuel (listed.setIfInBounds i true) a' w)(ho:ops[i]? = some o:=by(simp only[Vg,U9,Vf])<;>rfl)(hd:o.dst=d:=by rfl)(g:V4 o (yielded ops a.tmps)=true:=by kernel_rfl)(k:o.op=.move (.tmp t):=by rfl)(hx:a.eval (.tmp t)=x:=by(conv=>lhs;whnf)<;>rfl)
 (b:a.put d x=a':=by(simp only[UN,Us,Uu,Uv])<;>rfl) (e:aw1 ops p r (fw ops i) i listed=true:=by kernel_rfl) (f:∀c a w,Q (.panic c) (a.put o.dst x) w->Q (.panic c) a w:=by exact λ_ _ _ h=>h):AW P ops Q p r J (fuel+1) listed a w:=
 AW.take i (fw ops i) ho hd (U4 ⟨g,λw _=>by unfold U5;rw[k];dsimp only;rw[hx];rfl⟩) b e f h
theorem AG.cw(i:Nat){R:Ut->Ur->Prop}(l:J.p w->UH P f args w (Ret R))(hR:∀e w',J.p w->R e w'->J.p w')(h:∀e w',R e w'->AW P ops Q p r J fuel (listed.setIfInBounds i true) (a.put d e) w')(ho:ops[i]? = some o:=by(simp only[Vg,U9,Vf])<;>rfl)(hd:o.dst=d:=by rfl)(j:V4 o (yielded ops a.tmps)=true:=by kernel_rfl)(hx:(U5 a.eval o).run P w=.ok (.enter f args) w:=by kernel_rfl)(c:U7 .any ops listed=[i]:=by kernel_rfl):AW P ops Q p r J (fuel+1) listed a w:=λb=>by
 subst hd;exact anyS.step ho c λK g=>by
  rw[yCl j];unfold VT;rw[hx,Xb];refine(l b).mono ?_;rintro e w' ⟨v,rfl,k⟩;exact g.out _ _ (UX (hR v w' b k)) (h v w' k (hR v w' b k))
end
variable {P:Nat}[NeZero P]{N:Nat}[NeZero N]
theorem SO(a b c d e f g h i j k:Ut)(w:Ur):(Ve 28 (.agg #[a,b,c,d,e,f,g,h,i,j,k])).run prog w=.ok (jZ w.heap.size) (w.alloc (.cells #[a,b,c,d,e,f,g,h,i,j,k] 28)):=kR
theorem Uf(a b c d:Nat)(w:Ur):(Vy 24 4 #[(0,r33 a),(1,r33 b),(2,r33 c),(3,r33 d)]).run prog w=.ok (sZ w.heap.size 4 4) (w.alloc (.cells #[r33 a,r33 b,r33 c,r33 d] 23)):=kR
abbrev pqP(k n:Nat)(B:Nat->Bs):Pq:=⟨λQ W=>PtL Q W k n B,λ_ _ _ k h=>h.keep k,λ_ _ _ m h=>h.mono2 m⟩
def four(a b c d:Bs)(j:Nat):Bs:=if j=0 then a else if j=1 then b else if j=2 then c else d
def AD{α:Type}(a b c:α)(j:Nat):α:=if j=0 then a else if j=1 then b else c
theorem Ej{Q:Nat->Prop}{W':Ur}{k a b c:Nat}{x y z:Bs}(h:ElQ Q 32 W' (r32 a) x)(g:ElQ Q 32 W' (r32 b) y)(e:ElQ Q 32 W' (r32 c) z)(d:Row W' k [r32 a,r32 b,r32 c]):Args W' (some (aZ k)) 3 (AD x y z):=λ_=>by
 refine⟨_,rfl,d.1,λj f=>?_⟩;match j,f with
 | 0,_=>exact⟨_,d.2.1 0 _ rfl,h.argS⟩
 | 1,_=>exact⟨_,d.2.1 1 _ rfl,g.argS⟩
 | 2,_=>exact⟨_,d.2.1 2 _ rfl,e.argS⟩
 | j+3,h=>omega
theorem Im{Q:Nat->Prop}{W:Ur}{k n c:Nat}{a:Nat->Nat}(h:SLq Q W (sZ k n c) n a)(i:Nat)(b:i<n):W.rangeAt k (0+4*i) (wn (a i)):=by
 obtain⟨g,o,d,e,-,-,-,h⟩:=h;cases e
 exact h i b
theorem EI{Q:Nat->Prop}{W:Ur}{k n:Nat}(h:PtL Q W k n B)(i:Nat)(b:i<n):W.rangeAt k (0+33*i) (aA (B i)):=by
 rw[UD];exact(h i b).2.2
abbrev Z3:List Ut:=[.slice none 0 0,.slice none 0 0,.slice none 0 0]
theorem Om{x:Ut}(h:x∈Z3):x=.slice none 0 0:=by
 simp only[VX,UY,or_false,or_self]at h;exact h
def pLw(v:Ut)(r:Nat)(L:Bs):S1:=⟨λx w=>x=v/\r<w.heap.size/\Holds encB w r 0 L,λ_ _ _ k h=>⟨h.1,Ux h.2.1 k.size,Holds.below h.2.2 k h.2.1⟩⟩
theorem row_ne{b:List (Nat × List Ut)}{k r:Nat}{c s:List Ut}(h:(b.map (·.1)).Nodup)(i j:Nat)(o:i≠j)(u:b[i]? = some (k,c))(t:b[j]? = some (r,s)):k≠r:=λe=>by
 have l:=Z5.1 h;obtain⟨v,m⟩:=UF.1 u;obtain⟨q,n⟩:=UF.1 t;have g:(b.map (·.1))[i]'(by simpa using v)=k:=by rw[Xf,m]
 have f:(b.map (·.1))[j]'(by simpa using q)=r:=by rw[Xf,n]
 rcases Ws i j with d|p
 ·exact l i j _ _ d (g.trans (e.trans f.symm))
 ·exact l j i _ _ (by omega) (f.trans (e.symm.trans g.symm))
theorem Lr(C:Fld P)(O:Ord N)(k:∀r:EC.Pt P,On r->mul N r=none)(q:IsP N)(m:18446744073709551616<=N){n t:Nat}(u:Wd n t)(p:Rp)(ok:p.Ok)(V:Bs)(f b c:OnP P)(s:V=wP f)(d:p.c=wP b)(l:p.d=wP c)(tau tt x y z:Fin N)(j:p.u=tau.val)(g:p.t=tt.val)(w:Ur)(X:Bs)(i:X=wP ((aD C k).cm (hPV C) (gPG C) (tt-rgD n y z) tau))(o:X=wP ((aD C k).ad ((aD C k).ad ((aD C k).ac (z*z) f) ((aD C k).ac x b)) ((aD C k).ac (x*x) c))):
 UH prog 122 #[.agg p.l.toArray,pvl V,iZ n,nv x.val,nv y.val,nv z.val] w (rZ w λe w'=>e=.bool true):=by
 refine(Ls C O k q m u p ok V f b c s d l tau tt x y z j g w X X i o).mono ?_;rintro e w' ⟨v,rfl,d,rfl⟩;refine⟨_,rfl,d,?_⟩;generalize X=Y;simp only[decide_true]
theorem uIl:(prog.underlying 202).map (·.isRow)=some true:=kR
theorem iIl(c k t a b:Nat):(prog.info? 202).map (·.size)=some (inL c k t a b).length:=kR
theorem Oq(C:Fld P)(O:Ord N)(d:∀r:EC.Pt P,On r->mul N r=none)(hP:IsP N)(hN:18446744073709551616<=N){n t:Nat}(hw:Wd n t)(p:Rp)(ok:p.Ok)(V:Bs)(Vp PA PS P1 P2:OnP P)(hV:V=wP Vp)(hA:p.a=wP PA)(hS:p.s=wP PS)(T:p.c=wP P1)(h2:p.d=wP P2)(tau mu tt x y z wf:Fin N)(hu:p.u=tau.val)(hm:p.m=mu.val)(ht:p.t=tt.val)(L3 L6 L8:Bs)(l3:L3=bgL V n p.a p.s)(ey:y=kM N L3)(ez:z=kM N (bB L3))(l6:L6=mdL (bB (bB L3)) p.c p.d)(ex:x=kM N L6)(l8:L8=enL (bB L6) p.u p.m p.t)(ew:wf=kM N L8)
 (Lb Rb:Nat->Bs) (Lp Tp:Nat->OnP P) (du:∀j,Lb j=wP (Lp j)) (dw:∀j,Rb j=wP (Tp j)) (a b:Fin N) (u:OnP P) (eu:u=(aD C d).ac wf (uPt C)) (v0:Md.Vs Bs (OnP P)) (d2:v0.s=bB L8) (eh:v0.g=gPt C ⟨#[108,101,102,116]⟩) (eo:v0.h=λi=>(aD C d).ac (pwF (ivF y) i) (gPt C ⟨#[114,105,103,104,116]⟩ i)) (et:v0.p=(aD C d).ad ((aD C d).ad ((aD C d).ad ((aD C d).ad PA ((aD C d).ac x PS)) ((aD C d).ac (-1) ((aD C d).ac mu (gPG C)))) ((aD C d).ad ((aD C d).dt (λ_=>-z) v0.g n) ((aD C d).dt (rgS y z) v0.h n))) ((aD C d).ac tt u)) (X:Bs) (hX:X=wP ((aD C d).cm (hPV C) (gPG C) (tt-rgD n y z) tau)) (hY:X=wP ((aD C d).ad ((aD C d).ad ((aD C d).ac (z*z) Vp) ((aD C d).ac x P1)) ((aD C d).ac (x*x) P2))) (ed:(aD C d).KW u a b ((aD C d).vst (chF N) ivF t Lp Tp v0 t)) (f:Nat) (e:Ut) (w:Ur) (d5:RgA f t p Lb Rb (bx a.val) (bx b.val) e w) :
 UH prog 54 #[pvl V,iZ n,e] w (rZ w λe w'=>e=.bool true):=by
 obtain⟨g1,g2,g3,g4,g5,g6,g7,vL,vR,vA,vB,rfl,hT,hL,hR,eA,eB⟩:=d5.ex;have e0:=hw.2.2;have sV:V.size=33:=by rw[hV];exact aT _
 have h5:=λ(W:Ur) (B:kZ w W)=>(Kq.of_below B:Kq (λ_=>True) w W)
 have HT:=mk1 (λ(W:Ur) (B:kZ w W)=>hT.keep (h5 W B));have h6:∀X:OnP P,∃q,rd P (wP X)=some q:=λX=>by obtain⟨q,hq,-⟩:=zM C X.2;exact⟨q,hq⟩
 have bm:=mk1 (λ(W:Ur) (B:kZ w W)=>LV C O e0 W (hL.keep (h5 W B) λg S=>B.block g (hL.lt S).2) (hR.keep (h5 W B) λg S=>B.block g (hR.lt S).2) (eA.keep (h5 W B)) (eB.keep (h5 W B)) (λj _=>by rw[du];exact h6 _) (λj _=>by rw[dw];exact h6 _) (kJ O a.isLt) (kJ O b.isLt));obtain⟨vV,h7⟩:=hE (pvl V);obtain⟨k3,bp⟩:=hE (w.heap.size);obtain⟨w1,d9⟩:=hE (w.alloc (.cells (aA V).toArray 103));obtain⟨k5,d6⟩:=hE (w1.heap.size);obtain⟨w2,dh⟩:=hE (w1.alloc (.cells [r33 g1,r33 g2,r33 g3,r33 g4,r32 g5,r32 g6,r32 g7,vL,vR,vA,vB].toArray 28));have K2:=mk1 (((Mp.start w).new bp d9).new d6 dh);obtain⟨ve,e5⟩:=hE (U3 #[r33 g1,r33 g2,r33 g3,r33 g4,r32 g5,r32 g6,r32 g7,vL,vR,vA,vB]);have B1:Hid ((Ve 103 vV).run prog w=.ok (jZ k3) w1):=by rw[<-h7.out,<-d9.out,<-bp.out];exact rM sV w
 have B2:Hid ((Ve 28 ve).run prog w1=.ok (jZ k5) w2):=by rw[<-e5.out,<-dh.out,<-d6.out];exact SO _ _ _ _ _ _ _ _ _ _ _ w1
 have cf:=mk1 (hw.hv w2);rw[h7.out,e5.out];clear d5 hT hL hR eA eB h5;go_enter func54,ntmps54;refine Uz ?_;refine PW.begin ?_;refine PW.ns B1.out ?_;refine PW.ns B2.out ?_;refine PW.va (.bool false) ?_;refine PW.dn ?_;refine Uz ?_;refine PW.begin ?_;refine PW.mv ?_;refine PW.gi cf.out λw3 cj=>?_
 have K3:=mk1 (K2.grow cj);clear K2 cj cf B1 B2;refine PW.mv ?_;refine PW.va (iZ t) ?_;refine PW.va (.bool true) ?_;refine PW.va (iZ t) ?_;refine PW.va (.bool true) ?_;refine PW.dn ?_;refine Uz ?_;refine PW.begin ?_;refine PW.va (oZ k5 7) ?_;refine PW.ro (cs:=[vL,vR,vA,vB]) (rnB (xs:=[r33 g1,r33 g2,r33 g3,r33 g4,r32 g5,r32 g6,r32 g7]) (K3.at_ 1).2.1 rfl) (Hid.mk' rfl) Lg Jg ?_;refine PW.mv ?_;refine PW.ca (bm w3 K3.bl) ?_;rintro e w4 ⟨d4,kl,kr,rfl,c0,cy⟩;simp only[UN,Us,Uu,Uv];have A:=mk1 ((K3.gets d4 (pqP kl t Lb) c0).has (pqP kr t Rb) (cy.mono2 λg _ S=>K3.nk g S));clear bm d4 c0 cy K3;obtain⟨vI,hvI⟩:=hE (U3 (inL kl kr t a.val b.val).toArray);rw[hvI.out];refine PW.mv ?_;refine PW.va vI ?_;refine PW.va (.bool true) ?_;obtain⟨k9,dl⟩:=hE (w4.heap.size);obtain⟨w5,dd⟩:=hE (w4.alloc (.cells inZ.toArray 202));obtain⟨w6,e4⟩:=hE (w5.setCells k9 0 (inL kl kr t a.val b.val));have D:=mk1 (A.new dl dd);have K6:=mk1 (D.put 2 e4);refine PW.al dl dd ?_;refine PW.st e4 hvI (D.th 2) (iIl _ _ _ _ _) (E9 _ _ _ _ _) ?_;refine PW.va (.bool true) ?_;clear A D;refine PW.dn ?_;have I:=HT w6 K6.bl;obtain⟨kb,dy⟩:=hE (w6.heap.size);obtain⟨w7,dp⟩:=hE (w6.alloc (.cells [r33 g1,r33 g2,r33 g3,r33 g4].toArray 23));have hc:Hid ((Vy 24 4 #[(0,r33 g1),(1,r33 g2),(2,r33 g3),(3,r33 g4)]).run prog w6=.ok (sZ kb 4 4) w7):=by rw[<-dp.out,<-dy.out];exact Uf _ _ _ _ w6
 have F7:=aN dy dp;have d3:Hid (UH prog 120 #[.func (.func 53) #[] #[],sZ kb 4 4] w7 (rZ w7 λe w'=>∃K,e=.tuple #[sZ K 4 4,.bool true]/\PtL (w7.heap.size<=·) w' K 4 (four p.a p.s p.c p.d))):=by
  have kq:Kq (λ_=>True) w6 w7:=Kq.of_below F7.1;refine(Ki C kb 4 4 (by decide) (four p.a p.s p.c p.d) w7 F7.2.1 λj Z=>?_).mono ?_
  ·match j,Z with
   | 0,_=>exact⟨_,F7.2.2.1 0 _ rfl,(I.a.keep kq).arg⟩
   | 1,_=>exact⟨_,F7.2.2.1 1 _ rfl,(I.b.keep kq).arg⟩
   | 2,_=>exact⟨_,F7.2.2.1 2 _ rfl,(I.c.keep kq).arg⟩
   | 3,_=>exact⟨_,F7.2.2.1 3 _ rfl,(I.d.keep kq).arg⟩
  ·rintro e w' ⟨v,rfl,B,h⟩;rcases h with⟨-,K,rfl,l,s,k3⟩|⟨⟨j,Z,f⟩,-⟩
   ·exact⟨_,rfl,B,K,rfl,λj Z=>⟨l,s,k3 j Z⟩⟩
   ·exfalso;have:∃q,rd P (four p.a p.s p.c p.d j)=some q:=by
     match j,Z with
     | 0,_=>rw[show four p.a p.s p.c p.d 0=p.a from rfl,hA];exact h6 _
     | 1,_=>rw[show four p.a p.s p.c p.d 1=p.s from rfl,hS];exact h6 _
     | 2,_=>rw[show four p.a p.s p.c p.d 2=p.c from rfl,T];exact h6 _
     | 3,_=>rw[show four p.a p.s p.c p.d 3=p.d from rfl,h2];exact h6 _
    obtain⟨q,hq⟩:=this;rw[hq]at f;cases f
 refine Uz ?_;refine PW.begin ?_;refine PW.va (jZ k5) ?_;refine PW.ce ((K6.at_ 1).2.1 0 _ rfl) uBy ?_;refine PW.va (oZ k5 1) ?_;refine PW.ce ((K6.at_ 1).2.1 1 _ rfl) uBy ?_;refine PW.va (oZ k5 2) ?_;refine PW.ce ((K6.at_ 1).2.1 2 _ rfl) uBy ?_;refine PW.va (oZ k5 3) ?_;refine PW.ce ((K6.at_ 1).2.1 3 _ rfl) uBy ?_;refine PW.ns hc.out ?_;refine PW.ca d3.out ?_;rintro e w8 ⟨c8,A,rfl,cp⟩;simp only[UN,Us,Uu,Uv];have K8:=mk1 ((K6.grow F7.1).gets c8 (pqP A 4 (four p.a p.s p.c p.d)) cp);clear d3 hc F7 I K6 c8 cp;refine PW.mv ?_;refine PW.va (sZ A 4 4) ?_;refine PW.va (.bool true) ?_;refine PW.va (sZ A 4 4) ?_;refine PW.va (.bool true) ?_;refine PW.dn ?_;have I:=HT w8 K8.bl;obtain⟨kc,ec⟩:=hE (w8.heap.size);obtain⟨w9,ea⟩:=hE (w8.alloc (.cells [r32 g5,r32 g6,r32 g7].toArray 23));have hc:Hid ((Vy 24 3 #[(0,r32 g5),(1,r32 g6),(2,r32 g7)]).run prog w8=.ok (sZ kc 3 3) w9):=by rw[<-ea.out,<-ec.out];exact SK _ _ _ w8
 have F9:=aN ec ea;have k0:Kq (λ_=>True) w8 w9:=Kq.of_below F9.1;have cd:=mk1 (Kg O 3 3 (by decide) (some (aZ kc)) (AD (bx p.u) (bx p.m) (bx p.t)) (AD p.u p.m p.t) w9 (Ej (I.e.keep k0) (I.f.keep k0) (I.g.keep k0) F9.2) λj Z=>by
  match j,Z with
  | 0,_=>exact kJ O (by rw[hu];exact tau.isLt)
  | 1,_=>exact kJ O (by rw[hm];exact mu.isLt)
  | 2,_=>exact kJ O (by rw[ht];exact tt.isLt)
  | j+3,h=>omega)
 refine Uz ?_;refine PW.begin ?_;refine PW.va (oZ k5 4) ?_;refine PW.ce ((K8.at_ 1).2.1 4 _ rfl) uBy ?_;refine PW.va (oZ k5 5) ?_;refine PW.ce ((K8.at_ 1).2.1 5 _ rfl) uBy ?_;refine PW.va (oZ k5 6) ?_;refine PW.ce ((K8.at_ 1).2.1 6 _ rfl) uBy ?_;refine PW.ns hc.out ?_;refine PW.ca cd.out ?_;rintro e h9 ⟨kn,D,rfl,cq⟩;simp only[UN,Us,Uu,Uv];have L:=mk1 ((K8.grow F9.1).gets kn (pqS (sZ D 3 3) 3 (AD p.u p.m p.t)) cq);clear cd hc F9 I K8 kn cq k0;refine PW.mv ?_;refine PW.va (sZ D 3 3) ?_;refine PW.va (.bool true) ?_;refine PW.va (sZ D 3 3) ?_;refine PW.va (.bool true) ?_;refine PW.dn ?_;refine Uz ?_;go_wp2_with fail
 rename_i Q' K hKK
 refine hG (pvl p.a) λva cn=>?_
 refine hG (pvl p.s) λvs bz=>?_
 refine hG (pvl p.c) λvc dz=>?_
 refine hG (pvl p.d) λvd co=>?_
 refine hG (nv p.u) λvu d1=>?_
 refine hG (nv p.m) λvm dk=>?_
 refine hG (nv p.t) λvt ct=>?_
 refine hG (U3 p.l.toArray) λvp E=>?_
 refine hG h9.heap.size λb0 B=>?_
 have ha:∀ {W},kZ h9 W->b0<=W.heap.size:=λh=>B.out ▸ h.size
 refine(gwL [pE (sZ A 4 4),pE (.pointer (some ⟨A,0+33*0,none⟩)),pE va,pE (sZ A 4 4),pE (.pointer (some ⟨A,0+33*1,none⟩)),pE vs,pE (sZ A 4 4),pE (.pointer (some ⟨A,0+33*2,none⟩)),pE vc,pE (sZ A 4 4),pE (.pointer (some ⟨A,0+33*3,none⟩)),pE vd,pE (sZ D 3 3),pE (.pointer (some ⟨D,0+4*0,none⟩)),pE vu,pE (sZ D 3 3),pE (.pointer (some ⟨D,0+4*1,none⟩)),pE vm,pE (sZ D 3 3),pE (.pointer (some ⟨D,0+4*2,none⟩)),pE vt,pE vp,RG.pN b0 rp0.l] (λW=>kZ h9 W) (λW W' B h=>h.trans (B.mono h.size))).tail2 23 kR kR kR ⟨
  gO 11 (sZ A 4 4),
  DR 0 67 (sZ A 4 4) (.pointer (some ⟨A,0+33*0,none⟩)) (Vl 200 (sZ A 4 4) (iZ ((0:Nat):Int))) (atP A 0 4 4 0 (by decide)) (λx W h=>h) (λ_=>rfl),
  gLr (cs:=aA p.a) 1 68 (λW s=>EI ((L.grow s).get 2) 0 (by decide)) uCP (by rw[aB ok.a];exact iCP) (hR:=λ_=>cn.out),
  gO 11 (sZ A 4 4),
  DR 3 70 (sZ A 4 4) (.pointer (some ⟨A,0+33*1,none⟩)) (Vl 200 (sZ A 4 4) (iZ ((1:Nat):Int))) (atP A 0 4 4 1 (by decide)) (λx W h=>h) (λ_=>rfl),
  gLr (cs:=aA p.s) 4 71 (λW s=>EI ((L.grow s).get 2) 1 (by decide)) uCP (by rw[aB ok.s];exact iCP) (hR:=λ_=>bz.out),
  gO 11 (sZ A 4 4),
  DR 6 73 (sZ A 4 4) (.pointer (some ⟨A,0+33*2,none⟩)) (Vl 200 (sZ A 4 4) (iZ ((2:Nat):Int))) (atP A 0 4 4 2 (by decide)) (λx W h=>h) (λ_=>rfl),
  gLr (cs:=aA p.c) 7 74 (λW s=>EI ((L.grow s).get 2) 2 (by decide)) uCP (by rw[aB ok.c];exact iCP) (hR:=λ_=>dz.out),
  gO 11 (sZ A 4 4),
  DR 9 76 (sZ A 4 4) (.pointer (some ⟨A,0+33*3,none⟩)) (Vl 200 (sZ A 4 4) (iZ ((3:Nat):Int))) (atP A 0 4 4 3 (by decide)) (λx W h=>h) (λ_=>rfl),
  gLr (cs:=aA p.d) 10 77 (λW s=>EI ((L.grow s).get 2) 3 (by decide)) uCP (by rw[aB ok.d];exact iCP) (hR:=λ_=>co.out),
  gO 13 (sZ D 3 3),
  DR 12 79 (sZ D 3 3) (.pointer (some ⟨D,0+4*0,none⟩)) (Vl 124 (sZ D 3 3) (iZ ((0:Nat):Int))) (lF D 0 3 3 0 (by decide)) (λx W h=>h) (λ_=>rfl),
  gLr (cs:=wn p.u) 13 80 (λW s=>Im ((L.grow s).get 3) 0 (by decide)) u40 i40 (hR:=λ_=>d1.out),
  gO 13 (sZ D 3 3),
  DR 15 82 (sZ D 3 3) (.pointer (some ⟨D,0+4*1,none⟩)) (Vl 124 (sZ D 3 3) (iZ ((1:Nat):Int))) (lF D 0 3 3 1 (by decide)) (λx W h=>h) (λ_=>rfl),
  gLr (cs:=wn p.m) 16 83 (λW s=>Im ((L.grow s).get 3) 1 (by decide)) u40 i40 (hR:=λ_=>dk.out),
  gO 13 (sZ D 3 3),
  DR 18 85 (sZ D 3 3) (.pointer (some ⟨D,0+4*2,none⟩)) (Vl 124 (sZ D 3 3) (iZ ((2:Nat):Int))) (lF D 0 3 3 2 (by decide)) (λx W h=>h) (λ_=>rfl),
  gLr (cs:=wn p.t) 19 86 (λW s=>Im ((L.grow s).get 3) 2 (by decide)) u40 i40 (hR:=λ_=>ct.out),
  Jn [(69,va),(72,vs),(75,vc),(78,vd),(81,vu),(84,vm),(87,vt)] vp (λa W f=>⟨f.n 2 69 kR kR,f.n 5 72 kR kR,f.n 8 75 kR kR,f.n 11 78 kR kR,f.n 14 81 kR kR,f.n 17 84 kR kR,f.n 20 87 kR kR,yCn⟩) (λ_=>rfl) (λW=>by rw[<-cn.out,<-bz.out,<-dz.out,<-co.out,<-d1.out,<-dk.out,<-ct.out,<-E.out];unfold pvl Rp.l;rw[dF ok.a,dF ok.s,dF ok.c,dF ok.d];kernel_rfl),
  xP rp0.l 137 (λW W' h s=>⟨_,rfl,ha s,h⟩),yCn⟩ ⟨rfl,rfl,rfl,Uw _,λ_ _=>rfl⟩ ?_
 intro Y7 ei hR s;have bo:Y7 21=vp:=hR 21 dC;obtain⟨b4,bu,dm,d7⟩:=hR 22 dC;have be:=mk1 (L.add s d7 (by rw[B.out];exact dm));dsimp only[bU,VK,Xn,Xo];simp only[UN,Us,Uu,Uv];rw[bo,bu];clear hR s bo bu L B ha dm d7;refine hG (ei.setCells b4 0 p.l) λhy kj=>?_
 have lR:p.l.length=rp0.l.length:=(Rp.len ok).trans (Rp.len Iz).symm;have k6:=mk1 (be.put 3 kj rfl lR);have h4:(prog.info? 137).map (·.size)=some p.l.length:=by rw[Rp.len ok];exact iRd
 refine PW.st kj E (be.th 3 rfl lR) h4 (Rp.one p) ?_;clear be;refine PW.dn ?_;refine hKK _ _ ?_;clear hKK K;refine hG (bB (bB L3)) λL5 bb=>?_
 have s5:L5.size=32:=by rw[<-bb.out];exact bE _ _
 refine hG (nv y.val) λvy R=>?_
 refine hG (nv z.val) λvz h8=>?_
 have k8:n<=64:=by rw[hw.1];exact UC (VA (by decide) hw.2.2) (by decide)
 have kf:Hid (UH prog 68 #[vp,vV,iZ n] hy (rZ hy λe w'=>∃r,e=.tuple #[lgV r,vy,vz]/\hy.heap.size<=r/\Holds encB w' r 0 L5)):=by
  have h:=NY O p ok V sV n (by omega) hy;rw[<-l3,mP O hP ey,mP O hP ez,bb.out,E.out,h7.out,R.out,h8.out]at h;exact h
 have iV:(prog.info? 103).map (·.size)=some (aA V).length:=by rw[aB sV];exact iCP
 refine Uz ?_;refine PW.begin ?_;refine PW.ro (k6.at_ 3).2.1 E uRd h4 ?_;refine PW.ro (k6.at_ 0).2.1 h7 uCP iV ?_;refine PW.mv ?_;refine PW.ca kf.out ?_;rintro e d8 ⟨kk,r,rfl,lr,Hr⟩;simp only[UN,Us,Uu,Uv];have bn:=mk1 (k6.add kk (pW Hr (Holds.lt Hr (by rw[s5];decide))) lr);clear kf kk lr Hr k6;refine PW.mv ?_;refine PW.va (lgV r) ?_;refine PW.va vy ?_;refine PW.va vz ?_;refine hG (d8.heap.size) λbf km=>?_
 refine hG (d8.alloc (.cells [.pointer none].toArray 145)) λc4 kv=>?_
 refine hG c4.heap.size λb8 kd=>?_
 refine hG (c4.alloc (.cells (RG.z 4).toArray 49)) λe8 ke=>?_
 refine hG e8.heap.size λbt ki=>?_
 refine hG (e8.alloc (.cells (RG.z 4).toArray 49)) λes kh=>?_
 refine hG (es.setCells bf 0 [jZ r]) λee ka=>?_
 refine hG (ee.setCells b8 0 (wn y.val)) λej kz=>?_
 refine hG (ej.setCells bt 0 (wn z.val)) λb7 kt=>?_
 have b2:=mk1 (((bn.new km kv).new kd ke).new ki kh);have b3:=mk1 (b2.put 5 ka);have b9:=mk1 (b3.put 6 kz);have hs:=mk1 (b9.put 7 kt);refine PW.al km kv ?_;refine PW.al kd ke ?_;refine PW.al ki kh ?_;refine PW.st ka (Hid.mk' rfl) (b2.th 5) iLg kR ?_;refine PW.st kz R (b3.th 6) i40 (aM _) ?_;refine PW.st kt h8 (b9.th 7) i40 (aM _) ?_;clear bn b2 b3 b9;refine PW.dn ?_;refine hG (bB L6) λL7 b5=>?_
 have s7:L7.size=32:=by rw[<-b5.out];exact bE _ _
 refine hG (nv x.val) λvx h0=>?_
 have ky:Hid (UH prog 76 #[vp,lgV r] b7 (Ret λe w'=>SP.Only r 0 32 b7 w'/\Holds encB w' r 0 L7/\e=vx)):=by
  have h:=ND O p ok r L5 b7 (hs.log 4) s5;rw[show mdL L5 p.c p.d=L6 by rw[<-bb.out];exact l6.symm,mP O hP ex,b5.out,E.out,h0.out]at h;exact h
 refine Uz ?_;refine PW.begin ?_;refine PW.ro (hs.at_ 3).2.1 E uRd h4 ?_;refine PW.ro (cs:=[jZ r]) (hs.at_ 5).2.1 (Hid.mk' rfl) uLg iLg ?_;refine PW.ca ky.out ?_;rintro e df ⟨kx,ko,bk⟩;obtain rfl:=bk.symm;simp only[UN,Us,Uu,Uv];have cz:=mk1 (hs.say 4 kx ko);clear ky kx ko hs;refine hG (df.heap.size) λc7 kw=>?_
 refine hG (df.alloc (.cells (RG.z 4).toArray 49)) λen kp=>?_
 refine hG (en.setCells c7 0 (wn x.val)) λJ ku=>?_
 have bd:=mk1 (cz.new kw kp);have F:=mk1 (bd.put 8 ku);refine PW.al kw kp ?_;refine PW.st ku h0 (bd.th 8) i40 (aM _) ?_;clear cz bd;refine PW.dn ?_;refine hG (bB L8) λL9 hz=>?_
 have s9:L9.size=32:=by rw[<-hz.out];exact bE _ _
 refine hG (nv wf.val) λvw da=>?_
 have bg:0<n:=by rw[hw.1];exact XK (by decide)
 obtain⟨Q2,hQ⟩:=F.out.q;have nr:∀g,Q2 g->g≠r:=F.ne hQ 4;have hk:=(F.at_ 4).1;have l:Hid (∀ {k:Nat}{c:List Ut}{W:Ur},Row J k c->k≠r->SP.Only r 0 32 J W->Row W k c):=λT h2 h3=>aV T h3.size (h3.block _ T.1 h2)
 have nk:Hid ((b8≠r/\b4≠r)/\bf≠r):=by
  have h:=F.out.nd;simp only[List.map_cons,List.map_nil,List.nodup_cons,VX,UY,or_false,not_or]at h;exact⟨⟨λe=>h.2.2.2.2.1.2.1 e.symm,h.2.2.2.1.1⟩,λe=>h.2.2.2.2.1.1 e.symm⟩
 have cg:=nK C hP.1 n;have c6:Hid (∀W,Holds encB W r 0 L7->UH prog 81 #[vp,lgV r] W (Ret λe w'=>SP.Only r 0 32 W w'/\Holds encB w' r 0 L9/\e=vw)):=λW hH=>by
  have h:=NS O p ok (by rw[hu];exact tau.isLt) (by rw[hm];exact mu.isLt) (by rw[ht];exact tt.isLt) r L7 W hH s7;rw[show enL L7 p.u p.m p.t=L8 by rw[<-b5.out];exact l8.symm,mP O hP ew,hz.out,E.out,da.out]at h;exact h
 have dq:Hid (∀W v,(∀g,W.heap.size<=g->Q2 g)->GRq Q2 W v n (gGT P) (hGT P) (uGT P)->UH prog 84 #[v,vy,vw] W (rZ W λe w'=>GRq Q2 w' e n (gGT P) (oQ N y.val (hGT P)) ((uGT P).map (tmT N wf.val)))):=λW v T h2=>by
  rw[<-R.out,<-da.out];exact H8 O n bg k8 (gGT P) (hGT P) (uGT P) (λi G=>⟨(cg.tl i G).ok,by show 1<=512;decide⟩) (mR C hP.1).ok (by show 1<=512;decide) y.val wf.val y.isLt wf.isLt v W T h2
 refine hG J.heap.size λb0 B=>?_
 have ha:∀ {W},SP.Only r 0 32 J W->b0<=W.heap.size:=λh=>B.out ▸ h.size
 have Gk:Hid (∀ {W W':Ur}{v:Ut}{G H U},SP.Only r 0 32 W W'->GRq Q2 W v n G H U->GRq Q2 W' v n G H U):=λhO h=>h.keep ⟨hO.size,λg S hl=>hO.block g hl (nr g S)⟩
 have rb:r<b0:=by rw[<-B.out];exact hk
 have hr:Hid (∀ {W:Ur},SP.Only r 0 32 J W->∀g,W.heap.size<=g->Q2 g):=λh g S=>F.nkq hQ g (UC h.size S)
 refine Uz ?_;refine(gwL [pE (iZ n),pR Q2 n (gGT P) (hGT P) (uGT P),pE vy,pE vp,pE (lgV r),pLw vw r L9,pR Q2 n (gGT P) (oQ N y.val (hGT P)) ((uGT P).map (tmT N wf.val)),pX b0 Z3] (λW=>SP.Only r 0 32 J W) (λ_ _ B h=>h.trans (SP.Only.of_below B rfl (Ux hk h.size)))).tailL 5 (λW W'=>SP.Only r 0 32 W W') (λW=>r<W.heap.size/\Holds encB W r 0 L7) 8 (λj v W W' Z hO h=>by
  match j,Z with
  | 0,_=>exact h
  | 1,_=>exact Gk.out hO h
  | 2,_=>exact h
  | 3,_=>exact h
  | 4,_=>exact h
  | 5,Z=>exact(Z rfl).elim
  | 6,_=>exact Gk.out hO h
  | 7,_=>exact Ml hO rb h
  | j+8,_=>exact h) (λW W' hO h=>SP.Only.trans h hO) (λW W' B h=>⟨Ux h.1 B.size,Holds.below h.2 B h.1⟩) kR kR kR ⟨
  DK (gO 1 (iZ n)),
  DK (oW 0 100 62 (λx=>#[x]) (λx W e1 s=>by
   obtain rfl:x=iZ n:=e1;refine(xQ (P:=P) C n (by omega) W).mono ?_;rintro e W' ⟨M,rfl,T,h2⟩;exact⟨_,rfl,T,h2.mono (hr.out s)⟩)),
  DK (gLo (cs:=wn y.val) 17 (λW s=>(l.out (F.at_ 6) nk.1.1 s).2.1) u40 i40 (hR:=λ_=>R.out)),
  DK (gLo (cs:=p.l) 15 (λW s=>(l.out (F.at_ 3) nk.1.2 s).2.1) uRd h4 (hR:=λ_=>E.out)),
  DK (gLo (cs:=[jZ r]) 16 (λW s=>(l.out (F.at_ 5) nk.2 s).2.1) uLg iLg),
  TR (λa W f s=>⟨[(103,vp),(104,lgV r)],81,#[vp,lgV r],⟨f.n 3 103 kR kR,f.n 4 104 kR kR,yCn⟩,kR,by
   refine(c6.out W s.2).mono ?_;rintro e W' ⟨M,rfl,T,h2,h3⟩;exact⟨_,rfl,T,h3,Ux s.1 T.size,h2⟩⟩),
  DK (rG 1 101 2 102 5 105 84 (λx y z=>#[x,y,z]) (λx u z W e1 e2 e3 s=>by
   obtain rfl:u=vy:=e2;obtain rfl:z=vw:=e3.1;exact dq.out W x (hr.out s) e1)),
  DK (RX b0 Z3 133 (λW s=>ha s) (λv W h=>h)),yCn⟩ (SP.Only.of_below (⟨rfl,rfl,rfl,Uw _,λ_ _=>rfl⟩:kZ J J.drew) rfl hk) ⟨hk,F.log 4⟩ ?_
 intro Y bh hR s;have ck:GRq Q2 bh (Y 6) n (gGT P) (oQ N y.val (hGT P)) ((uGT P).map (tmT N wf.val)):=hR 6 dC;have eb:Holds encB bh r 0 L9:=(hR 5 dC).2.2;obtain⟨bv,e7,cv,de,bq⟩:=hR 7 dC;obtain⟨bl,ds⟩:=F.out.sayAdd 4 s eb de (by rw[B.out];exact cv);have gl:∀j,j<n->0<(gGT P j).length:=λj Z=>by rw[(vE C hP.1 n).len j Z];decide
 have hl:∀j,j<n->0<(oQ N y.val (hGT P) j).length:=λj Z=>by rw[(Js C d hP y n).len j Z];decide
 have k7:=(ck.offX bg gl hl (by rw[UQ];show 0<1;decide) (λi x hx=>Om (bq i x hx))).mono λg S=>ds g (by rw[hQ.out];exact S.1) S.2
 obtain⟨q1,q2,q3,e6,ci,cx,c3⟩:=k7.ex;obtain⟨ga,oa,ca,e1⟩:∃g o c,q1=.slice (some ⟨g,o,none⟩) n c:=by obtain⟨g,o,c,h,-⟩:=ci;exact⟨g,o,c,h⟩
 obtain⟨gb,ob,cb,e2⟩:∃g o c,q2=.slice (some ⟨g,o,none⟩) n c:=by obtain⟨g,o,c,h,-⟩:=cx;exact⟨g,o,c,h⟩
 obtain⟨gc,mc,cc,e3⟩:∃g m c,q3=sZ g m c:=by obtain⟨g,c,h,-⟩:=c3;exact⟨g,_,c,h⟩
 subst e1 e2 e3;rw[e6]at k7;have b6:=mk1 (bl.has (pqG _ n (gGT P) (oQ N y.val (hGT P)) ((uGT P).map (tmT N wf.val))) k7);dsimp only[bU,VK,Xn,Xo];simp only[UN,Us,Uu,Uv];rw[e6,e7];clear hR s ck k7 ci cx c3 eb de bq cv e6 e7 F bl ds B ha rb hr Gk l c6 dq nk hk nr hQ Q2 cg;refine hG (bh.setCells bv 0 [.slice (some ⟨ga,oa,none⟩) n ca,.slice (some ⟨gb,ob,none⟩) n cb,sZ gc mc cc]) λhe kg=>?_
 have f:=mk1 (b6.put 9 kg);refine PW.st kg (Hid.mk' rfl) (b6.th 9) iGr kR ?_;clear b6;refine PW.dn ?_;have ek:Hid (∀W,UH prog 122 #[vp,vV,iZ n,vx,vy,vz] W (rZ W λe w'=>e=.bool true)):=λW=>by
  rw[<-E.out,<-h7.out,<-h0.out,<-R.out,<-h8.out];exact Lr C O d hP hN hw p ok V Vp P1 P2 hV T h2 tau tt x y z hu ht W X hX hY
 have G1:Gd N n 1 (gGT P) v0.g:=by rw[eh];exact vE C hP.1 n
 have G2:Gd N n 1 (oQ N y.val (hGT P)) v0.h:=by rw[eo];exact Js C d hP y n
 have G3:Tl N ((uGT P).map (tmT N wf.val)) u:=by rw[eu];exact(mR C hP.1).tm C d wf
 have G4:((uGT P).map (tmT N wf.val)).length=1:=by rw[UQ];rfl
 obtain⟨lh,br,em,cu⟩:=RS C O d hP hN bg k8 p ok PA PS hA hS mu tt x y z hm ht (gGT P) (oQ N y.val (hGT P)) ((uGT P).map (tmT N wf.val)) v0.g v0.h u G1 G2 G3 G4;rw[<-et]at br;rw[E.out,h0.out,R.out,h8.out]at cu;refine hG (U3 #[.slice (some ⟨ga,oa,none⟩) n ca,.slice (some ⟨gb,ob,none⟩) n cb,sZ gc mc cc]) λvg ba=>?_
 rw[ba.out]at f;have d0:=(f.at_ 4).1;refine Uz ?_;have l:Hid (∀ {k:Nat}{c:List Ut}{W:Ur},Row he k c->k≠r->SP.Only r 0 32 he W->Row W k c):=λT h2 h3=>aV T h3.size (h3.block _ T.1 h2)
 have dx:b4≠r:=(row_ne f.out.nd 3 4 (by decide) rfl rfl)
 have n3:k3≠r:=(row_ne f.out.nd 0 4 (by decide) rfl rfl)
 have n9:k9≠r:=(row_ne f.out.nd 2 4 (by decide) rfl rfl)
 have eg:bf≠r:=(row_ne f.out.nd 5 4 (by decide) rfl rfl)
 have c9:b8≠r:=(row_ne f.out.nd 6 4 (by decide) rfl rfl)
 have bs:bt≠r:=(row_ne f.out.nd 7 4 (by decide) rfl rfl)
 have e9:c7≠r:=(row_ne f.out.nd 8 4 (by decide) rfl rfl)
 have c5:bv≠r:=(row_ne f.out.nd 9 4 (by decide) rfl rfl)
 refine AW.beg 20 20 (Iv.only d0) (SP.Only.of_below (⟨rfl,rfl,rfl,Uw _,λ_ _=>rfl⟩:kZ he he.drew) rfl d0) ?_;refine AW.ro 0 (cs:=p.l) (λW h=>(l.out (f.at_ 3) dx h).2.1) E uRd h4 ?_;refine AW.ro 1 (λW h=>(l.out (f.at_ 0) n3 h).2.1) h7 uCP iV ?_;refine AW.mv 2 ?_;refine AW.ro 3 (λW h=>(l.out (f.at_ 8) e9 h).2.1) h0 u40 i40 ?_;refine AW.ro 4 (λW h=>(l.out (f.at_ 6) c9 h).2.1) R u40 i40 ?_;refine AW.ro 5 (λW h=>(l.out (f.at_ 7) bs h).2.1) h8 u40 i40 ?_;refine AW.gi 6 (λ_=>ek.out _) λep bj=>?_
 have k4:=mk1 (f.drew.grow bj);refine AW.mv 7 ?_;refine AG.ro 8 (cs:=inL kl kr t a.val b.val) (λW h=>(l.out (f.at_ 2) n9 h).2.1) hvI uIl (iIl _ _ _ _ _) ?_;refine AG.ro 9 (cs:=[jZ r]) (λW h=>(l.out (f.at_ 5) eg h).2.1) (Hid.mk' rfl) uLg iLg ?_;refine AG.ro 10 (cs:=[.slice (some ⟨ga,oa,none⟩) n ca,.slice (some ⟨gb,ob,none⟩) n cb,sZ gc mc cc]) (λW h=>(l.out (f.at_ 9) c5 h).2.1) ba uGr iGr ?_;refine AG.ro 11 (cs:=p.l) (λW h=>(l.out (f.at_ 3) dx h).2.1) E uRd h4 ?_;refine AG.ro 12 (cs:=[.slice (some ⟨ga,oa,none⟩) n ca,.slice (some ⟨gb,ob,none⟩) n cb,sZ gc mc cc]) (λW h=>(l.out (f.at_ 9) c5 h).2.1) ba uGr iGr ?_;refine AG.mv 13 ?_;refine AG.ro 14 (λW h=>(l.out (f.at_ 8) e9 h).2.1) h0 u40 i40 ?_;refine AG.ro 15 (λW h=>(l.out (f.at_ 6) c9 h).2.1) R u40 i40 ?_;refine AG.ro 16 (λW h=>(l.out (f.at_ 7) bs h).2.1) h8 u40 i40 ?_;refine AG.cw 17 (λ_=>cu _ vg ep (k4.get 4)) (λe w' hJ h=>SP.Only.trans hJ (SP.Only.of_below h.1 rfl (k4.at_ 4).1)) ?_;rintro sv bc ⟨bi,er⟩;simp only[UN,Us,Uu,Uv];have M:=mk1 (k4.grow bi);have ef:Hid (UH prog 123 #[vI,lgV r,vg,sv] bc (Ret λe w'=>SP.Only r 0 32 bc w'/\e=.bool true)):=by
  obtain⟨Q,hQ⟩:=M.out.q;have nr:∀g,Q g->g≠r:=M.ne hQ 4;have f1:=(k4.at_ 4).1;rw[<-hvI.out];exact LR C O d hP t e0 Lp Tp v0 u (gGT P) (oQ N y.val (hGT P)) ((uGT P).map (tmT N wf.val)) lh (by rw[<-hw.1];exact G1) (by rw[<-hw.1];exact G2) G3 (by rw[G4];decide) (by rw[G4];decide) br em Lb Rb du dw r kl kr a b vg sv bc (by rw[d2,hz.out];exact M.log 4) (by rw[d2,hz.out];exact s9) (PtL.mono2 (M.uP hQ 0) λg _ S=>nr g S) (PtL.mono2 (M.uP hQ 1) λg _ S=>nr g S) (by rw[<-hw.1];exact GRq.mono (M.uP hQ 4) nr) (er.q.mono λg S=>by omega) true (by simp only[true_iff];exact ed)
 refine AG.cw 18 (λ_=>ef.out) (λe w' hJ h=>SP.Only.trans hJ h.1) ?_;rintro e f0 ⟨db,rfl⟩;simp only[UN,Us,Uu,Uv];refine AW.nx 19 (.bool true) ?_;refine AW.nx 20 (.bool true) ?_;refine AW.dn λ_=>?_
 have hF:=M.bl.trans (wY db M.bl.size (M.rw (r,aA L9) (VJ (i:=4) rfl)).1);go_wp2;go_ret;exact⟨_,rfl,hF,rfl⟩
end
end Go.Proofs.YtdoammpgchejcaaGreat
